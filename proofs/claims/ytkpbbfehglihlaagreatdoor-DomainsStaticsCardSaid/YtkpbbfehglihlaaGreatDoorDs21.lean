import Derived.WalkKit
import Derived.ProofKit
import Derived.Lib.Hide
import Derived.Deep.AppendLies
import Derived.Deep.RegionLaw
import Derived.Deep.RegionHeld3
import Derived.ShutString
import Derived.StillTailTactics
import Derived.Deep.QuietTactic
import Derived.BigQuiet
import Derived.Lib.Bytealg
import Derived.Deep.DeepFit
import Derived.Test.YtkpbbfehglihlaaGreatDoorRows
set_option maxRecDepth 100000
set_option maxHeartbeats 40000000
namespace Go.Proofs.YtkpbbfehglihlaaGreatDoor.Mac
open Go.Lib (hid)
open Go.RowKit
theorem host_or (a:Int) (h0:0≤a) (h1:a<4294967296):bits .or .u64 2199023255552 a=2199023255552+a:=by
 rw [u64_or _ _ (by omega) (by omega) h0 (by omega)]
 have:(2199023255552:Int).toNat |||a.toNat=2199023255552+a.toNat:=by
  have:=Nat.two_pow_add_eq_or_of_lt (i:=41) (b:=a.toNat) (by omega) 1
  simpa using this.symm
 rw [this];omega
theorem mask_48 (m:Int) (h0:0≤m) (h1:m<18446744073709551616):bits .and .u64 m 281474976710655=m % 281474976710656:=by
 rw [u64_and _ _ h0 h1 (by omega) (by omega)]
 have:m.toNat &&& (281474976710655:Int).toNat=m.toNat % 281474976710656:=Nat.and_two_pow_sub_one_eq_mod m.toNat 48
 rw [this];omega
theorem bit_40 (m:Nat):m &&& 1099511627776=(m / 1099511627776 % 2) * 1099511627776:=by
 apply Nat.eq_of_testBit_eq
 intro i;rw [Nat.testBit_and,show (1099511627776:Nat)=2 ^ 40 from rfl,Nat.testBit_two_pow,Nat.testBit_mul_two_pow]
 by_cases hi:40=i
 · subst hi
   rw [Nat.testBit_eq_decide_div_mod_eq];simp
 · rcases Nat.lt_or_ge i 40 with h|h
   · simp [hi];omega
   · have:(m / 2 ^ 40 % 2).testBit (i - 40)=false:=Nat.testBit_lt_two_pow (Nat.lt_of_lt_of_le (Nat.mod_lt _ (by decide)) (Nat.pow_le_pow_right (by decide:0<2) (by omega:1≤i - 40)))
     simp [hi,this]
def byt (m:Int) (i:Nat):Int:=m / 256 ^ (5 - i) % 256
theorem vFb (m:Int) (i:Nat):0≤byt m i:=by unfold byt;exact Int.emod_nonneg _ (by decide)
theorem vFr (m:Int) (i:Nat):byt m i<256:=by unfold byt;exact Int.emod_lt_of_pos _ (by decide)
def grp (m:Int):Bool:=decide (m / 1099511627776 % 2=1)
theorem group_and (m:Int) (h0:0≤m) (h1:m<18446744073709551616):(bits .and .u64 m 1099511627776 != 0)=grp m:=by
 rw [u64_and _ _ h0 h1 (by omega) (by omega)];obtain ⟨n,rfl⟩:=Int.eq_ofNat_of_zero_le h0
 have:=bit_40 n
 simp only [Int.toNat_natCast,show (1099511627776:Int).toNat=1099511627776 from rfl,this];unfold grp;rw [Bool.eq_iff_iff];simp;omega
theorem host_any (a:Int) (w:World) (h0:0≤a) (h1:a<4294967296):
 Calls Tryz.prog 195 #[.int .u32 a] w fun e w'=>e=.returned (.int .u64 (2199023255552+a))∧w=w':=by
 have h:=host_or a h0 h1
 go_enter Tryz.func195,Tryz.ntmps195
 go_wp2;go_ret;exact ⟨by simp,rfl⟩
theorem group_any (m:Int) (w:World) (h0:0≤m) (h1:m<18446744073709551616):
 Calls Tryz.prog 176 #[.int .u64 m] w fun e w'=>e=.returned (.bool (grp m))∧w=w':=by
 have h:=group_and m h0 h1
 go_enter Tryz.func176,Tryz.ntmps176
 go_wp2;go_ret;exact ⟨by simp,rfl⟩
def isHostB (m:Int):Bool:=decide (2199023255552+m % 4294967296=m % 281474976710656)
theorem isHost_any (m:Int) (w:World) (h0:0≤m) (h1:m<18446744073709551616):
 Calls Tryz.prog 175 #[.int .u64 m] w fun e w'=>e=.returned (.tuple #[.int .u32 (if isHostB m=true then m % 4294967296 else 0),.bool (isHostB m)])∧w=w':=by
 have h:=mask_48 m h0 h1
 by_cases hh:isHostB m=true
 · have hd:((2199023255552+m % 4294967296) != (m % 281474976710656))=false:=by
    unfold isHostB at hh;simp at hh;simp [hh]
   rw [hh];have hx:Hid (isHostB m=true):=hid hh;clear hh
   go_enter Tryz.func175,Tryz.ntmps175
   go_wp2_with (go_at_call 195;refine (host_any _ _ (by omega) (by omega)).mono ?_;rintro e w' ⟨rfl,rfl⟩);go_ret2;exact ⟨by simp,rfl⟩
 · have hd:((2199023255552+m % 4294967296) != (m % 281474976710656))=true:=by
    unfold isHostB at hh;simp at hh;simp [hh]
   have h2:isHostB m=false:=by simpa using hh
   rw [h2];clear hh h2
   go_enter Tryz.func175,Tryz.ntmps175
   go_wp2_with (go_at_call 195;refine (host_any _ _ (by omega) (by omega)).mono ?_;rintro e w' ⟨rfl,rfl⟩);go_ret2;exact ⟨by simp,rfl⟩
theorem Tryz.info5:(Tryz.prog.info? 5).map (fun i=>(i.zero,i.size,i.bytes))=some (some (.int .u8 0),1,1):=by kernel_rfl
def hx (d:Int):Int:=if d<10 then 48+d else 87+d
def textPre (m:Int):Nat→List Int
 |0=>[]
 |k+1=>textPre m k++(if 0<k then [58] else [])++[hx (byt m k / 16),hx (byt m k % 16)]
def strOf (ns:List Int):ByteArray:=⟨(ns.map fun n=>UInt8.ofNat n.toNat).toArray⟩
abbrev digs:ByteArray:=⟨#[48,49,50,51,52,53,54,55,56,57,97,98,99,100,101,102]⟩
theorem index_dig (d:Int) (h0:0≤d) (h1:d<16) (w:World):(Instr.index 9 (.string digs) (.int .u8 d)).run Tryz.prog w=.ok (.int .u8 (hx d)) w:=by
 have:d=0∨d=1∨d=2∨d=3∨d=4∨d=5∨d=6∨d=7∨d=8∨d=9∨d=10∨d=11∨d=12∨d=13∨d=14∨d=15:=by omega
 rcases this with rfl|rfl|rfl|rfl|rfl|rfl|rfl|rfl|rfl|rfl|rfl|rfl|rfl|rfl|rfl|rfl<;>(show Sem.run _ _ _=Result.ok _ _;kernel_rfl)
theorem textPre_len (m:Int) (k:Nat):(textPre m k).length≤3 * k:=by
 induction k with
 |zero=>simp [textPre]
 |succ k ih=>simp only [textPre,List.length_append];split<;>simp<;>omega
theorem vEj {a w w':World} {e:TypeId} {s n:Nat} {v:Value} {xs:List Value} (h:Below a.heap.size a w) (ho:w.ownsRow a.heap.size e s v n xs) (hg:w.grownBy w' v.ownBlock):Below a.heap.size a w':=
 h.grown hg h.size (fun k hk=>(ho.lt k hk).1)
def vCi (m:Int):Nat→List Int
 |0=>[]
 |r+1=>vCi m r++[byt m r]
theorem bytesPre_len (m:Int) (r:Nat):(vCi m r).length=r:=by
 induction r with
 |zero=>rfl
 |succ r ih=>simp [vCi,ih]
theorem div_more (m:Int) (k:Nat):m / 256 ^ k / 256=m / 256 ^ (k+1):=by
 rw [Int.pow_succ,Int.ediv_ediv_of_nonneg (by exact Int.le_of_lt (Int.pow_pos (by decide)))]
theorem quo_u64 (x c:Int) (h0:0≤x) (h1:x<18446744073709551616) (hc:1≤c):IntKind.u64.wrap (x.tdiv c)=x / c:=by
 rw [Int.tdiv_eq_ediv_of_nonneg h0];have h2:0≤x / c:=Int.ediv_nonneg h0 (by omega);have h3:x / c≤x:=Int.ediv_le_self c h0;simp only [IntKind.wrap,IntKind.bits,IntKind.signed]
 have:x / c % 2 ^ 64=x / c:=Int.emod_eq_of_lt h2 (by omega)
 simpa using this
theorem pow_div_le (m:Int) (k:Nat) (h0:0≤m):0≤m / 256 ^ k∧m / 256 ^ k≤m:=
 ⟨Int.ediv_nonneg h0 (Int.le_of_lt (Int.pow_pos (by decide))),Int.ediv_le_self _ h0⟩
theorem bytes_more {a wr w1:World} {m:Int} {r g cap:Nat} {u3:Value} {o1:Obj} (hbel:Below a.heap.size a wr)
 (hown:wr.ownsRow a.heap.size 5 1 u3 r ((vCi m r).map (Value.int .u8)))
 (hown1:w1.ownsRow a.heap.size 5 1 (.slice (some ⟨g,0,none⟩) (r+1) cap) (r+1) ((vCi m r).map (Value.int .u8)++[.int .u8 (byt m r)]))
 (hg1:(wr.alloc o1).grownBy w1 u3.ownBlock):
 w1.ownsRow a.heap.size 5 1 (.slice (some ⟨g,0,none⟩) (r+1) cap) (r+1) ((vCi m (r+1)).map (Value.int .u8))∧Below a.heap.size a w1:=by
 have b1:=vEj (hbel.alloc hbel.size o1) (hown.alloc o1) hg1;exact ⟨by simpa [vCi] using hown1,b1⟩
theorem refBytes_any (m:Int) (w:World) (h0:0≤m) (h1:m<18446744073709551616):
 Calls Tryz.prog 208 #[.int .u64 m] w fun e w'=>∃v,e=.returned v∧w'.ownsRow w.heap.size 5 1 v 6 ((vCi m 6).map (Value.int .u8))∧Below w.heap.size w w':=by
 obtain ⟨i0,hi,hz0,hz1,hz2⟩:=info_parts Tryz.info5;have Hi:=hid hi;have Hz0:=hid hz0;have Hz1:=hid hz1;have Hz2:=hid hz2;clear hi hz0 hz1 hz2
 go_enter Tryz.func208,Tryz.ntmps208
 go_wp2
 go_loopw [3,4] (fun v i wr=>∃r:Nat,r≤6∧i=.int .i64 (5 - (r:Int))∧wr.ownsRow w.heap.size 5 1 v r ((vCi m r).map (Value.int .u8))∧Below w.heap.size w wr) (fun _ i _=>(intOf i+1).toNat)
 case atStart=>exact ⟨0,by omega,rfl,World.ownsRow_nil _ _ _ _,Below.refl _ _⟩
 case round=>
  obtain ⟨r,hr,rfl,hown,hbel⟩:=hrel
  by_cases hlt:r<6
  · obtain ⟨wo,rfl⟩:∃wo:World,wo=wr:=⟨_,rfl⟩
    go_wp2
    go_loop [5,6] (fun x k=>∃j:Nat,j≤5 - r∧k=.int .i64 j∧x=.int .u64 (m / 256 ^ j)) (fun _ k=>5 - r - (intOf k).toNat)
    case atStart=>exact ⟨0,by omega,rfl,by simp⟩
    case round=>
     obtain ⟨j,hj,rfl,rfl⟩:=hrel;obtain ⟨hn0,hn1⟩:=pow_div_le m j h0
     by_cases hlt2:j<5 - r
     · have hlt3:(j:Int)<5 - (r:Int):=by omega
       have hq:IntKind.u64.wrap ((m / 256 ^ j).tdiv 256)=m / 256 ^ (j+1):=by rw [quo_u64 _ _ hn0 (by omega) (by omega),div_more]
       go_wp2
       go_round
       case rel=>exact ⟨j+1,by omega,by go_num,rfl⟩
       case measure=>simp [intOf];omega
     · obtain rfl:j=5 - r:=by omega
       go_wp2_with (at_builtin;refine wpList_append_lies _ rfl (.tmp 19) (.tmp 23) 183 rfl w.heap.size 5 i0 (.int .u8 0) 1 1 Tryz.underlying183 Hi.out Hz0.out Hz1.out Hz2.out rfl (by decide) _ _ _ (by rfl) (hown.alloc _) ⟨wo.heap.size,0,none⟩ 1 1 [.int .u8 (byt m r)] (by rfl) rfl (World.news_of_block (heap_alloc_new wo _)) (by simp [Value.oneCell']) (by omega) (by unfold maxLen;omega) (by omega) (by have:=hbel.size;simp;omega) _ rfl ?_;intro g cap w1 hown1 hgrow1 _ _)
       have hend:=bytes_more hbel hown hown1 hgrow1;clear hbel hown hown1 hgrow1;go_wp2
       go_roundw
       case rel=>exact ⟨r+1,by omega,by go_num,hend.1,hend.2⟩
       case measure=>simp [intOf];omega
  · obtain rfl:r=6:=by omega
    go_wp2;go_ret;exact ⟨_,rfl,hown,hbel⟩
theorem bytesPre_get (m:Int) (r j:Nat) (h:j<r):(vCi m r)[j]?=some (byt m j):=by
 induction r with
 |zero=>omega
 |succ r ih=>
  rw [vCi,List.getElem?_append,bytesPre_len]
  split
  · exact ih (by assumption)
  · obtain rfl:j=r:=by omega
    simp
theorem vCh (m:Int) (w:World) (h0:0≤m) (h1:m<18446744073709551616):
 Calls Tryz.prog 208 #[.int .u64 m] w fun e w'=>∃g cap,e=.returned (.slice (some ⟨g,0,none⟩) 6 cap)∧6≤cap∧cap≤maxLen∧w.heap.size≤g∧
  w'.ownsRow w.heap.size 5 1 (.slice (some ⟨g,0,none⟩) 6 cap) 6 ((vCi m 6).map (Value.int .u8))∧(∀j,j<6→w'.cell? ⟨g,j,none⟩=some (.int .u8 (byt m j)))∧Below w.heap.size w w':=by
 refine (refBytes_any m w h0 h1).mono ?_;rintro e w' ⟨v,rfl,hown,hb⟩
 rcases hown.2 with ⟨_,h6⟩|⟨g,cap,cur,rfl,hg,_,hc,hm,_⟩
 · omega
 · refine ⟨g,cap,rfl,hc,hm,hg,hown,fun j hj=>?_,hb⟩
   rw [hown.cellAt j (by omega),List.getElem?_map,bytesPre_get m 6 j hj]
   rfl
theorem grp_byt (m:Int):(byt m 0 % 2 == 1)=grp m:=by
 unfold byt grp;rw [Bool.eq_iff_iff];simp
theorem refGroup_any (m:Int) (w:World) (h0:0≤m) (h1:m<18446744073709551616):
 Calls Tryz.prog 220 #[.int .u64 m] w fun e w'=>e=.returned (.bool (grp m))∧Below w.heap.size w w':=by
 have e1:=hid (grp_byt m);have b0:=vFb m 0;have b1:=vFr m 0
 go_enter Tryz.func220,Tryz.ntmps220
 go_wp2_with (go_at_call 208;refine (vCh m _ h0 h1).mono ?_;rintro e w1 ⟨g,cap,rfl,hc6,hcm,hg,hown,hcell,hb⟩;have c0:=hcell 0 (by omega);have H:=hid hcell;clear hcell;unfold maxLen at hcm);go_ret;exact ⟨by rw [←e1.out];rfl,hb⟩
def numOf (f:Nat→Int):Nat→Int
 |0=>0
 |k+1=>numOf f k * 256+f k
theorem numOf_bd (f:Nat→Int) (n:Nat) (h:∀j,j<n→0≤f j∧f j<256):0≤numOf f n∧numOf f n<256 ^ n:=by
 induction n with
 |zero=>simp [numOf]
 |succ n ih=>
  obtain ⟨i0,i1⟩:=ih (fun j hj=>h j (by omega));obtain ⟨g0,g1⟩:=h n (by omega);have e:(256:Int) ^ (n+1)=256 ^ n * 256:=Int.pow_succ ..;simp only [numOf];rw [e];omega
theorem pow_le_40 (k:Nat) (h:k<6):(256:Int) ^ k≤1099511627776:=by
 have:∀i:Fin 6,(256:Int) ^ i.val≤1099511627776:=by decide
 exact this ⟨k,h⟩
theorem number_any (b off len cap:Nat) (f:Nat→Int) (w:World) (hlen:len≤6) (hcap:len≤cap) (hf:∀j,j<len→0≤f j∧f j<256)
 (hc:∀j,j<len→w.cell? ⟨b,off+j,none⟩=some (.int .u8 (f j))):
 Calls Tryz.prog 228 #[.slice (some ⟨b,off,none⟩) len cap] w fun e w'=>e=.returned (.int .u64 (numOf f len))∧w=w':=by
 have HC:=hid hc;have HF:=hid hf;clear hc hf
 go_enter Tryz.func228,Tryz.ntmps228
 go_wp2
 go_loop [3,4] (fun n i=>∃k:Nat,k≤len∧i=.int .i64 k∧n=.int .u64 (numOf f k)) (fun _ i=>len - (intOf i).toNat)
 case atStart=>exact ⟨0,by omega,rfl,rfl⟩
 case round=>
  obtain ⟨k,hk,rfl,rfl⟩:=hrel
  by_cases hlt:k<len
  · have hcell:=HC.out k hlt
    obtain ⟨f0,f1⟩:=HF.out k hlt;obtain ⟨n0,n1⟩:=numOf_bd f k (fun j hj=>HF.out j (by omega));have n2:=pow_le_40 k (by omega)
    have n3:numOf f k<1099511627776:=by omega
    clear n1 n2;go_wp2
    go_round
    case rel=>exact ⟨k+1,by omega,by go_num,rfl⟩
    case measure=>simp [intOf];omega
  · obtain rfl:k=len:=by omega
    go_wp2;go_ret;exact ⟨rfl,rfl⟩
theorem vHq (m:Int):isHostB m=true↔byt m 0=2∧byt m 1=0:=by
 unfold isHostB byt;simp;omega
theorem num_low (m:Int):numOf (fun j=>byt m (2+j)) 4=m % 4294967296:=by
 simp only [numOf,byt];simp;omega
theorem refIsHost_any (m:Int) (w:World) (h0:0≤m) (h1:m<18446744073709551616):
 Calls Tryz.prog 219 #[.int .u64 m] w fun e w'=>e=.returned (.tuple #[.int .u32 (if isHostB m=true then m % 4294967296 else 0),.bool (isHostB m)])∧Below w.heap.size w w':=by
 have b00:=vFb m 0;have b01:=vFr m 0;have b10:=vFb m 1;have b11:=vFr m 1
 by_cases t0:byt m 0=2
 · by_cases t1:byt m 1=0
   · have hh:isHostB m=true:=(vHq m).2 ⟨t0,t1⟩
     rw [hh,if_pos rfl];have nl:=hid (show numOf (fun j=>byt m (2+j)) 4 % 4294967296=m % 4294967296 by rw [num_low m];omega)
     have d0:(byt m 0 != 2)=false:=by simp [t0]
     have d1:(byt m 1 != 0)=false:=by simp [t1]
     clear t0 t1 hh
     go_enter Tryz.func219,Tryz.ntmps219
     go_wp2_with (first
      |(go_at_call 208;refine (vCh m _ h0 h1).mono ?_;rintro e w1 ⟨g,cap,rfl,hc6,hcm,hg,hown,hcell,hb⟩;have c0:=hcell 0 (by omega);have c1:=hcell 1 (by omega);have H:=hid hcell;clear hcell;unfold maxLen at hcm)
      |(go_at_call 228;refine (number_any g 2 4 _ (fun j=>byt m (2+j)) _ (by omega) (by omega) (fun j _=>⟨vFb _ _,vFr _ _⟩) (fun j hj=>H.out (2+j) (by omega))).mono ?_;rintro e w' ⟨rfl,rfl⟩))
     go_ret2;exact ⟨by rw [←nl.out];rfl,hb⟩
   · have hh:isHostB m=false:=by
      rcases hx:isHostB m with _|_
      · rfl
      · exact absurd ((vHq m).1 hx).2 t1
     rw [hh]
     have d0:(byt m 0 != 2)=false:=by simp [t0]
     have d1:(byt m 1 != 0)=true:=by simp [t1]
     clear t0 t1 hh
     go_enter Tryz.func219,Tryz.ntmps219
     go_wp2_with (go_at_call 208;refine (vCh m _ h0 h1).mono ?_;rintro e w1 ⟨g,cap,rfl,hc6,hcm,hg,hown,hcell,hb⟩;have c0:=hcell 0 (by omega);have c1:=hcell 1 (by omega);have H:=hid hcell;clear hcell;unfold maxLen at hcm);go_ret2;exact ⟨by simp,hb⟩
 · have hh:isHostB m=false:=by
    rcases hx:isHostB m with _|_
    · rfl
    · exact absurd ((vHq m).1 hx).1 t0
   rw [hh]
   have d0:(byt m 0 != 2)=true:=by simp [t0]
   clear t0 hh
   go_enter Tryz.func219,Tryz.ntmps219
   go_wp2_with (go_at_call 208;refine (vCh m _ h0 h1).mono ?_;rintro e w1 ⟨g,cap,rfl,hc6,hcm,hg,hown,hcell,hb⟩;have c0:=hcell 0 (by omega);have c1:=hcell 1 (by omega);have H:=hid hcell;clear hcell;unfold maxLen at hcm);go_ret2;exact ⟨by simp,hb⟩
theorem slice_dig (d:Int) (h0:0≤d) (h1:d<16) (w:World):(Instr.sliceAt 9 (.string digs) (some (.int .u8 d)) (some (.int .u8 (d+1))) none).run Tryz.prog w=.ok (.string (strOf [hx d])) w:=by
 have:d=0∨d=1∨d=2∨d=3∨d=4∨d=5∨d=6∨d=7∨d=8∨d=9∨d=10∨d=11∨d=12∨d=13∨d=14∨d=15:=by omega
 rcases this with rfl|rfl|rfl|rfl|rfl|rfl|rfl|rfl|rfl|rfl|rfl|rfl|rfl|rfl|rfl|rfl<;>(show Sem.run _ _ _=Result.ok _ _;kernel_rfl)
theorem vDe (a b:List Int):strOf (a++b)=strOf a++strOf b:=by
 unfold strOf;rw [List.map_append,ByteArray.mk_append_mk]
theorem vFx (a:List Int):(strOf a).size=a.length:=by simp [strOf,ByteArray.size]
abbrev colonS:ByteArray:=⟨#[58]⟩
theorem colonS_of:colonS=strOf [58]:=by decide +kernel
theorem vAd {B:Nat} {a w:World} (h:Below B a w) (n:Nat):Below B a (w.drewN n):=⟨h.os,h.tape,h.output,h.size,h.block⟩
theorem text_next (m:Int) (k:Nat) (h:0<k):strOf (textPre m (k+1))=strOf (textPre m k)++⟨#[58]⟩++strOf [hx (byt m k / 16)]++strOf [hx (byt m k % 16)]:=by
 rw [show (⟨#[58]⟩:ByteArray)=strOf [58] from colonS_of,←vDe,←vDe,←vDe];simp [textPre,h]
theorem text_next0 (m:Int) (k:Nat) (h:¬0<k):strOf (textPre m (k+1))=strOf (textPre m k)++strOf [hx (byt m k / 16)]++strOf [hx (byt m k % 16)]:=by
 rw [←vDe,←vDe];simp [textPre,h]
theorem refText_any (m:Int) (w:World) (h0:0≤m) (h1:m<18446744073709551616):
 Calls Tryz.prog 184 #[.int .u64 m] w fun e w'=>e=.returned (.string (strOf (textPre m 6)))∧Below w.heap.size w w':=by
 go_enter Tryz.func184,Tryz.ntmps184
 go_wp2_with (go_at_call 208;refine (vCh m _ h0 h1).mono ?_;rintro e w1 ⟨g,cap,rfl,hc6,hcm,hg,hown,hcell,hb⟩;have H:=hid hcell;clear hcell;unfold maxLen at hcm)
 go_loopw [5,6] (fun v i wr=>∃k:Nat,k≤6∧i=.int .i64 k∧v=.string (strOf (textPre m k))∧∃n,wr=w1.drewN n) (fun _ i _=>6 - (intOf i).toNat)
 case atStart=>exact ⟨0,by omega,rfl,rfl,0,rfl⟩
 case round=>
  obtain ⟨k,hk,rfl,rfl,nn,rfl⟩:=hrel
  by_cases hlt:k<6
  · have hlt2:(k:Int)<6:=by omega
    have b0:=vFb m k;have b1:=vFr m k;have c0:=H.out k hlt;have S1:=slice_dig (byt m k / 16) (by omega) (by omega);have S2:=slice_dig (byt m k % 16) (by omega) (by omega)
    have z1:(strOf (textPre m k)).size≤18:=by rw [vFx];have:=textPre_len m k;omega
    have z2:(strOf [hx (byt m k / 16)]).size≤1:=by rw [vFx];simp
    have z3:(strOf [hx (byt m k % 16)]).size≤1:=by rw [vFx];simp
    by_cases hk0:0<k
    · have HN:=hid (text_next m k hk0)
      go_wp2
      go_quiet (fail)
      go_wp2
      go_roundw
      case rel=>exact ⟨k+1,by omega,by go_num,by rw [HN.out],_,rfl⟩
      case measure=>simp [intOf];omega
    · have HN:=hid (text_next0 m k hk0)
      go_wp2
      go_quiet (fail)
      go_wp2
      go_roundw
      case rel=>exact ⟨k+1,by omega,by go_num,by rw [HN.out],_,rfl⟩
      case measure=>simp [intOf];omega
  · obtain rfl:k=6:=by omega
    go_wp2;go_ret;exact ⟨rfl,vAd hb nn⟩
def dg (c:Int):Int:=if 48≤c∧c≤57 then c - 48 else if 97≤c∧c≤102 then c - 87 else -1
theorem dg_lt (c:Int):dg c<16:=by unfold dg;split<;>(try split)<;>omega
def sb (s:ByteArray) (j:Nat):Int:=((s.data.toList.getD j 0).toNat:Int)
theorem sb_lo (s:ByteArray) (j:Nat):0≤sb s j:=by unfold sb;omega
theorem sb_hi (s:ByteArray) (j:Nat):sb s j<256:=by unfold sb;have:=(s.data.toList.getD j 0).toNat_lt;omega
def good (s:ByteArray) (j:Nat):Prop:=0≤dg (sb s (3 * j))∧0≤dg (sb s (3 * j+1))∧(0<j→sb s (3 * j - 1)=58)
instance (s:ByteArray) (j:Nat):Decidable (good s j):=by unfold good;infer_instance
def val (s:ByteArray):Nat→Int
 |0=>0
 |k+1=>val s k * 256+(dg (sb s (3 * k)) * 16+dg (sb s (3 * k+1)))
def rdB (s:ByteArray):Bool:=decide (s.size=17) && (List.range 6).all fun j=>decide (good s j)
theorem rdB_iff (s:ByteArray):rdB s=true↔s.size=17∧∀j,j<6→good s j:=by simp [rdB]
def rdV (s:ByteArray):Int:=if rdB s=true then val s 6 else 0
theorem val_bd (s:ByteArray) (k:Nat) (h:∀j,j<k→good s j):0≤val s k∧val s k<256 ^ k:=by
 induction k with
 |zero=>simp [val]
 |succ k ih=>
  obtain ⟨i0,i1⟩:=ih (fun j hj=>h j (by omega));obtain ⟨g0,g1,_⟩:=h k (by omega)
  have:=dg_lt (sb s (3 * k));have:=dg_lt (sb s (3 * k+1))
  have e:(256:Int) ^ (k+1)=256 ^ k * 256:=Int.pow_succ ..;simp only [val];rw [e];omega
theorem vAr (s:ByteArray) (j:Nat) (i:Int) (hi:i=(j:Int)) (hj:j<s.size) (w:World):(Instr.index 9 (.string s) (.int .i64 i)).run Tryz.prog w=.ok (.int .u8 (sb s j)) w:=by
 subst hi
 have h1:((j:Int))<(s.size:Int):=by omega
 go_simp
 simp [sb,List.getD,List.getElem?_eq_getElem (show j<s.data.toList.length by simpa using hj)]
 rfl
theorem vDw (m:Int):textPre m 6=[hx (byt m 0 / 16),hx (byt m 0 % 16),58,hx (byt m 1 / 16),hx (byt m 1 % 16),58,hx (byt m 2 / 16),hx (byt m 2 % 16),58,
 hx (byt m 3 / 16),hx (byt m 3 % 16),58,hx (byt m 4 / 16),hx (byt m 4 % 16),58,hx (byt m 5 / 16),hx (byt m 5 % 16)]:=by simp [textPre]
theorem vIn (c:Int) (h:0≤dg c):hx (dg c)=c:=by
 by_cases a:48≤c∧c≤57
 · have e:dg c=c - 48:=by simp [dg,a]
   rw [e];unfold hx;rw [if_pos (by omega)];omega
 · by_cases b:97≤c∧c≤102
   · have e:dg c=c - 87:=by unfold dg;rw [if_neg a,if_pos b]
     rw [e];unfold hx;rw [if_neg (by omega)];omega
   · have e:dg c= -1:=by unfold dg;rw [if_neg a,if_neg b]
     omega
theorem dg_hx (d:Int) (h0:0≤d) (h1:d<16):dg (hx d)=d:=by
 have:d=0∨d=1∨d=2∨d=3∨d=4∨d=5∨d=6∨d=7∨d=8∨d=9∨d=10∨d=11∨d=12∨d=13∨d=14∨d=15:=by omega
 rcases this with rfl|rfl|rfl|rfl|rfl|rfl|rfl|rfl|rfl|rfl|rfl|rfl|rfl|rfl|rfl|rfl<;>decide
theorem hx_bd (d:Int) (h0:0≤d) (h1:d<16):0≤hx d∧hx d<256:=by unfold hx;split<;>omega
theorem sb_strOf (l:List Int) (j:Nat) (hl:∀x∈l,0≤x∧x<256) (hj:j<l.length):sb (strOf l) j=l.getD j 0:=by
 unfold sb strOf;have h1:=hl l[j] (List.getElem_mem hj);simp [List.getD,hj];omega
theorem textPre_bd (m:Int):∀x∈textPre m 6,0≤x∧x<256:=by
 have a:=fun k=>hx_bd (byt m k / 16) (by have:=vFb m k;omega) (by have:=vFr m k;omega)
 have b:=fun k=>hx_bd (byt m k % 16) (by have:=vFb m k;omega) (by have:=vFr m k;omega)
 rw [vDw];simp only [List.forall_mem_cons];exact ⟨a 0,b 0,by decide,a 1,b 1,by decide,a 2,b 2,by decide,a 3,b 3,by decide,a 4,b 4,by decide,a 5,b 5,by simp⟩
theorem textPre_17 (m:Int):(textPre m 6).length=17:=by rw [vDw];rfl
theorem rdB_text (m:Int):rdB (strOf (textPre m 6))=true:=by
 rw [rdB_iff];refine ⟨by rw [vFx,textPre_17],fun j hj=>?_⟩
 have hd:=fun k:Nat=>dg_hx (byt m k / 16) (by have:=vFb m k;omega) (by have:=vFr m k;omega)
 have hm:=fun k:Nat=>dg_hx (byt m k % 16) (by have:=vFb m k;omega) (by have:=vFr m k;omega)
 have hn0:=fun k:Nat=>vFb m k
 have get:=fun i (hi:i<17)=>sb_strOf (textPre m 6) i (textPre_bd m) (by rw [textPre_17];exact hi)
 unfold good;rw [get (3 * j) (by omega),get (3 * j+1) (by omega),get (3 * j - 1) (by omega),vDw];have a:=hn0 j;have h1:=hd j;have h2:=hm j
 match j,hj with
 |0,_|1,_|2,_|3,_|4,_|5,_=>
  simp [h1,h2] at *
  first|omega|(constructor<;>omega)
theorem strOf_sb (s:ByteArray) (n:Nat) (hs:s.size=n):strOf ((List.range n).map (sb s))=s:=by
 have hl:s.data.toList.length=n:=by simpa using hs
 have e:((List.range n).map (sb s)).map (fun n=>UInt8.ofNat n.toNat)=s.data.toList:=by
  apply List.ext_getElem
  · simp [hl]
  · intro i h1 h2
    simp [sb,List.getD,List.getElem?_eq_getElem h2]
 unfold strOf;rw [e]
theorem val_six (s:ByteArray):val s 6=(((((dg (sb s 0) * 16+dg (sb s 1)) * 256+(dg (sb s 3) * 16+dg (sb s 4))) * 256+(dg (sb s 6) * 16+dg (sb s 7))) * 256+(dg (sb s 9) * 16+dg (sb s 10))) * 256+(dg (sb s 12) * 16+dg (sb s 13))) * 256+(dg (sb s 15) * 16+dg (sb s 16)):=by
 simp [val]
theorem text_val (s:ByteArray) (h:rdB s=true):strOf (textPre (val s 6) 6)=s:=by
 obtain ⟨hs,hg⟩:=(rdB_iff s).1 h;obtain ⟨a0,b0,_⟩:=hg 0 (by omega);obtain ⟨a1,b1,c1⟩:=hg 1 (by omega);obtain ⟨a2,b2,c2⟩:=hg 2 (by omega);obtain ⟨a3,b3,c3⟩:=hg 3 (by omega);obtain ⟨a4,b4,c4⟩:=hg 4 (by omega);obtain ⟨a5,b5,c5⟩:=hg 5 (by omega);have c1:=c1 (by omega);have c2:=c2 (by omega);have c3:=c3 (by omega);have c4:=c4 (by omega);have c5:=c5 (by omega);simp only [Nat.mul_zero,Nat.zero_add,Nat.reduceMul,Nat.reduceAdd,Nat.reduceSub] at a0 b0 a1 b1 c1 a2 b2 c2 a3 b3 c3 a4 b4 c4 a5 b5 c5
 have L:=fun j=>dg_lt (sb s j)
 have hv:=val_six s;have l0:=L 0;have l1:=L 1;have l3:=L 3;have l4:=L 4;have l6:=L 6;have l7:=L 7;have l9:=L 9;have l10:=L 10;have l12:=L 12;have l13:=L 13;have l15:=L 15;have l16:=L 16
 have y0:byt (val s 6) 0=dg (sb s 0) * 16+dg (sb s 1):=by unfold byt;simp only [Nat.reduceSub,Int.reducePow];omega
 have y1:byt (val s 6) 1=dg (sb s 3) * 16+dg (sb s 4):=by unfold byt;simp only [Nat.reduceSub,Int.reducePow];omega
 have y2:byt (val s 6) 2=dg (sb s 6) * 16+dg (sb s 7):=by unfold byt;simp only [Nat.reduceSub,Int.reducePow];omega
 have y3:byt (val s 6) 3=dg (sb s 9) * 16+dg (sb s 10):=by unfold byt;simp only [Nat.reduceSub,Int.reducePow];omega
 have y4:byt (val s 6) 4=dg (sb s 12) * 16+dg (sb s 13):=by unfold byt;simp only [Nat.reduceSub,Int.reducePow];omega
 have y5:byt (val s 6) 5=dg (sb s 15) * 16+dg (sb s 16):=by unfold byt;simp only [Nat.reduceSub,Int.reducePow];omega
 clear hv
 have q:∀a b:Int,0≤a→0≤b→b<16→(a * 16+b) / 16=a∧(a * 16+b) % 16=b:=fun a b _ _ _=>by omega
 rw [vDw,y0,y1,y2,y3,y4,y5,(q _ _ a0 b0 l1).1,(q _ _ a0 b0 l1).2,(q _ _ a1 b1 l4).1,(q _ _ a1 b1 l4).2,(q _ _ a2 b2 l7).1,(q _ _ a2 b2 l7).2,
  (q _ _ a3 b3 l10).1,(q _ _ a3 b3 l10).2,(q _ _ a4 b4 l13).1,(q _ _ a4 b4 l13).2,(q _ _ a5 b5 l16).1,(q _ _ a5 b5 l16).2,
  vIn _ a0,vIn _ b0,vIn _ a1,vIn _ b1,vIn _ a2,vIn _ b2,vIn _ a3,vIn _ b3,vIn _ a4,vIn _ b4,vIn _ a5,vIn _ b5]
 have e:=strOf_sb s 17 hs;rw [show (List.range 17).map (sb s)=[sb s 0,sb s 1,sb s 2,sb s 3,sb s 4,sb s 5,sb s 6,sb s 7,sb s 8,sb s 9,sb s 10,sb s 11,sb s 12,sb s 13,sb s 14,sb s 15,sb s 16] from rfl,c1,c2,c3,c4,c5] at e;exact e
def dd (c:Int):Int:=if 48≤c∧c≤57 then c - 48 else if 97≤c∧c≤102 then c - 87 else 0
theorem dd_bd (c:Int):0≤dd c∧dd c<16:=by unfold dd;split<;>(try split)<;>omega
theorem vIi (c:Int) (h:0≤dg c):dd c=dg c:=by
 by_cases a:48≤c∧c≤57
 · simp [dd,dg,a]
 · by_cases b:97≤c∧c≤102
   · unfold dd dg;rw [if_neg a,if_neg a,if_pos b,if_pos b]
   · have e:dg c= -1:=by unfold dg;rw [if_neg a,if_neg b]
     omega
def nn (s:ByteArray):Nat→Int
 |0=>0
 |i+1=>if i % 3=2 then nn s i else nn s i * 16+dd (sb s i)
theorem nn_bd (s:ByteArray) (i:Nat):0≤nn s i∧nn s i<16 ^ (i - i / 3):=by
 induction i with
 |zero=>simp [nn]
 |succ i ih=>
  obtain ⟨i0,i1⟩:=ih;obtain ⟨d0,d1⟩:=dd_bd (sb s i);simp only [nn]
  by_cases h:i % 3=2
  · rw [if_pos h,show i+1 - (i+1) / 3=i - i / 3 by omega]
    exact ⟨i0,i1⟩
  · rw [if_neg h,show i+1 - (i+1) / 3=(i - i / 3)+1 by omega,Int.pow_succ]
    omega
theorem nn_val (s:ByteArray) (h:rdB s=true):nn s 17=val s 6:=by
 obtain ⟨hs,hg⟩:=(rdB_iff s).1 h;obtain ⟨a0,b0,_⟩:=hg 0 (by omega);obtain ⟨a1,b1,_⟩:=hg 1 (by omega);obtain ⟨a2,b2,_⟩:=hg 2 (by omega);obtain ⟨a3,b3,_⟩:=hg 3 (by omega);obtain ⟨a4,b4,_⟩:=hg 4 (by omega);obtain ⟨a5,b5,_⟩:=hg 5 (by omega);simp only [Nat.mul_zero,Nat.zero_add,Nat.reduceMul,Nat.reduceAdd] at a0 b0 a1 b1 a2 b2 a3 b3 a4 b4 a5 b5;rw [val_six];simp only [nn,Nat.reduceMod,if_true,reduceIte,Nat.reduceEqDiff]
 simp only [vIi _ a0,vIi _ b0,vIi _ a1,vIi _ b1,vIi _ a2,vIi _ b2,vIi _ a3,vIi _ b3,vIi _ a4,vIi _ b4,vIi _ a5,vIi _ b5];omega
theorem refRead_short (s:ByteArray) (w:World) (h:s.size≠17):
 Calls Tryz.prog 201 #[.string s] w fun e w'=>e=.returned (.tuple #[.int .u64 0,.bool false])∧w=w':=by
 have h':((s.size:Int) != 17)=true:=by simp;omega
 clear h
 go_enter Tryz.func201,Tryz.ntmps201
 go_wp2;go_ret2;exact ⟨rfl,rfl⟩
theorem bytes_ne (a b:ByteArray) (h:a≠b):(a.toList == b.toList)=false:=by
 rcases hx:(a.toList == b.toList) with _|_
 · rfl
 · exfalso
   have e:a.toList=b.toList:=by simpa using hx
   rw [ByteArray.toList_eq,ByteArray.toList_eq] at e
   apply h
   cases a
   cases b
   exact congrArg ByteArray.mk (Array.ext' e)
theorem nn_some (s:ByteArray) (i:Nat) (h:i % 3≠2) (d:Int) (hd:dd (sb s i)=d):nn s (i+1)=nn s i * 16+d:=by
 simp [nn,h,hd]
theorem nn_none (s:ByteArray) (i:Nat) (h:i % 3=2):nn s (i+1)=nn s i:=by
 simp [nn,h]
theorem refRead_17 (s:ByteArray) (w:World) (hs:s.size=17):
 Calls Tryz.prog 201 #[.string s] w fun e w'=>e=.returned (.tuple #[.int .u64 (rdV s),.bool (rdB s)])∧Below w.heap.size w w':=by
 have h':((s.size:Int) != 17)=false:=by simp;omega
 have Hs:=hid hs;clear hs
 go_enter Tryz.func201,Tryz.ntmps201
 go_wp2
 go_loop [4,5] (fun v i=>∃k:Nat,k≤17∧i=.int .i64 k∧v=.int .u64 (nn s k)) (fun _ i=>17 - (intOf i).toNat)
 case atStart=>exact ⟨0,by omega,rfl,rfl⟩
 case round=>
  obtain ⟨k,hk,rfl,rfl⟩:=hrel
  by_cases hlt:k<17
  · have x0:=vAr s k k rfl (by have:=Hs.out;omega)
    have l0:=sb_lo s k;have l1:=sb_hi s k;obtain ⟨n0,n1⟩:=nn_bd s k
    have n2:nn s k<17592186044416:=by
     have:∀i:Fin 17,(16:Int) ^ (i.val - i.val / 3)≤17592186044416:=by decide
     have:=this ⟨k,hlt⟩
     simp only at this;omega
    clear n1
    by_cases hm:k % 3=2
    · have HN:=hid (nn_none s k hm)
      have e1:((k:Int) % 3 != 2)=false:=by simp;omega
      clear hm
      by_cases c1:sb s k<48
      · go_wp2
        go_round
        case rel=>exact ⟨k+1,by omega,by go_num,by rw [HN.out]⟩
        case measure=>simp [intOf];omega
      by_cases c2:sb s k≤57
      · go_wp2
        go_round
        case rel=>exact ⟨k+1,by omega,by go_num,by rw [HN.out]⟩
        case measure=>simp [intOf];omega
      by_cases c3:sb s k<97
      · go_wp2
        go_round
        case rel=>exact ⟨k+1,by omega,by go_num,by rw [HN.out]⟩
        case measure=>simp [intOf];omega
      by_cases c4:sb s k≤102
      · go_wp2
        go_round
        case rel=>exact ⟨k+1,by omega,by go_num,by rw [HN.out]⟩
        case measure=>simp [intOf];omega
      · go_wp2
        go_round
        case rel=>exact ⟨k+1,by omega,by go_num,by rw [HN.out]⟩
        case measure=>simp [intOf];omega
    · have e1:((k:Int) % 3 != 2)=true:=by simp;omega
      have HM:=hid hm;clear hm
      by_cases c1:sb s k<48
      · have HN:=hid (nn_some s k HM.out 0 (by unfold dd;rw [if_neg (by omega),if_neg (by omega)]))
        go_wp2
        go_round
        case rel=>exact ⟨k+1,by omega,by go_num,by rw [HN.out];first|rfl|simp⟩
        case measure=>simp [intOf];omega
      by_cases c2:sb s k≤57
      · have HN:=hid (nn_some s k HM.out (sb s k - 48) (by unfold dd;rw [if_pos (by omega)]))
        go_wp2
        go_round
        case rel=>exact ⟨k+1,by omega,by go_num,by rw [HN.out]⟩
        case measure=>simp [intOf];omega
      by_cases c3:sb s k<97
      · have HN:=hid (nn_some s k HM.out 0 (by unfold dd;rw [if_neg (by omega),if_neg (by omega)]))
        go_wp2
        go_round
        case rel=>exact ⟨k+1,by omega,by go_num,by rw [HN.out];first|rfl|simp⟩
        case measure=>simp [intOf];omega
      by_cases c4:sb s k≤102
      · have HN:=hid (nn_some s k HM.out (sb s k - 87) (by unfold dd;rw [if_neg (by omega),if_pos (by omega)]))
        go_wp2
        go_round
        case rel=>exact ⟨k+1,by omega,by go_num,by rw [HN.out]⟩
        case measure=>simp [intOf];omega
      · have HN:=hid (nn_some s k HM.out 0 (by unfold dd;rw [if_neg (by omega),if_neg (by omega)]))
        go_wp2
        go_round
        case rel=>exact ⟨k+1,by omega,by go_num,by rw [HN.out];first|rfl|simp⟩
        case measure=>simp [intOf];omega
  · obtain rfl:k=17:=by omega
    obtain ⟨n0,n1⟩:=nn_bd s 17
    have n2:nn s 17<18446744073709551616:=by simp at n1;omega
    clear n1
    rcases hB:rdB s with _|_
    · have HE:=hid (show rdV s=0 by simp [rdV,hB])
      have hne:((strOf (textPre (nn s 17) 6)).toList == s.toList)=false:=by
       refine bytes_ne _ _ fun he=>?_
       rw [←he,rdB_text] at hB
       cases hB
      have HB:=hid hB;clear hB;go_wp2_with (go_at_call 184;refine (refText_any _ _ n0 n2).mono ?_;rintro e w1 ⟨rfl,hb⟩);go_ret2;exact ⟨by rw [HE.out,HB.out];rfl,hb⟩
    · have hv:nn s 17=rdV s:=by rw [nn_val s hB];simp [rdV,hB]
      have ht:=refText_any (nn s 17)
      have hs1:strOf (textPre (nn s 17) 6)=s:=by rw [nn_val s hB,text_val s hB]
      rw [hs1] at ht;have HT:=hid ht;have HB:=hid hB;have HV:=hid hv;clear ht hB hv hs1;go_wp2_with (go_at_call 184;refine (HT.out _ n0 n2).mono ?_;rintro e w1 ⟨rfl,hb⟩);go_ret2;exact ⟨by rw [←HV.out,HB.out];rfl,hb⟩
theorem refRead_any (s:ByteArray) (w:World):
 Calls Tryz.prog 201 #[.string s] w fun e w'=>e=.returned (.tuple #[.int .u64 (rdV s),.bool (rdB s)])∧Below w.heap.size w w':=by
 by_cases hs:s.size=17
 · exact refRead_17 s w hs
 · have hb:rdB s=false:=by simp [rdB,hs]
   have hv:rdV s=0:=by simp [rdV,hb]
   rw [hb,hv]
   exact (refRead_short s w hs).mono fun _ _ ⟨h1,h2⟩=>⟨h1,h2▸Below.refl _ _⟩
end Go.Proofs.YtkpbbfehglihlaaGreatDoor.Mac
