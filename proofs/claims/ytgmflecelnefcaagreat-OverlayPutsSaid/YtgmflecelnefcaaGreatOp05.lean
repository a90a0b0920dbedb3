import Derived.Test.YtgmflecelnefcaaGreatOp01
import Derived.Test.YtgmflecelnefcaaGreatOp03
import Derived.Test.YtgmflecelnefcaaGreatOp04
import Derived.WalkMore
import Derived.Lib.AppendIntMem
import Derived.Test.YtgmflecelnefcaaGreatShelf
import Derived.Laws.AppendOwnNone
import Derived.SliceStrings
import Derived.SizedLaws
set_option maxRecDepth 100000
set_option maxHeartbeats 40000000
namespace Go.Proofs.YtgmflecelnefcaaGreat
open Go.Lib (hid)
open Go.RowKit
theorem isD_sb (s:ByteArray) (k:Nat):isD (s.data.toList.getD k 0)=true↔48≤sb s k∧sb s k≤57:=by
 rw [vEv];unfold sb;omega
theorem vHt (s:ByteArray) (k:Nat) (h:¬(48≤sb s k∧sb s k≤57)):isD (s.data.toList.getD k 0)=false:=by
 cases hx:isD (s.data.toList.getD k 0) with
 |false=>rfl
 |true=>exact absurd ((isD_sb s k).1 hx) h
def rdV (l:List UInt8):Int:=((rdF l).getD 0:Nat)
def rdB (l:List UInt8):Bool:=(rdF l).isSome
theorem rd_no {l:List UInt8} (h:rdF l=none):rdV l=0∧rdB l=false:=by unfold rdV rdB;rw [h];exact ⟨rfl,rfl⟩
theorem rd_yes {l:List UInt8} {a:Nat} (h:rdF l=some a):rdV l=(a:Int)∧rdB l=true:=by unfold rdV rdB;rw [h];exact ⟨rfl,rfl⟩
open Go.Lib (decDigits)
theorem vGe (w:World) (c:Int) (E:TypeId):
 (convert 197 9 (.slice (some ⟨w.heap.size,0,none⟩) 1 1)).run Tryz.prog (w.alloc (.cells #[.int .u8 c] E))=.ok (.string (str [UInt8.ofNat c.toNat])) (w.alloc (.cells #[.int .u8 c] E)):=by
 rw [run_convert_bytes_string _ _ _ _ _ _ _ Tryz.underlying197 Tryz.underlying5 Tryz.underlying9]
 have hl:(loadCells ⟨w.heap.size,0,none⟩ 1).run Tryz.prog (w.alloc (.cells #[.int .u8 c] E))=.ok ([c].map (Value.int .u8)).toArray (w.alloc (.cells #[.int .u8 c] E)):=
  run_loadCells_list (P:=Tryz.prog) (w:=w.alloc (.cells #[.int .u8 c] E)) ⟨w.heap.size,0,none⟩ [Value.int .u8 c] (fun j v hj=>by
   match j,hj with
   |0,hj=>
    have:Value.int .u8 c=v:=by simpa using hj
    subst this;simp [Addr.add]
   |j+1,hj=>simp at hj)
 rw [run_bytesToString _ _ _ _ [c] hl]
 rfl
theorem dec_len18 {u:Nat} (h:u<1000000000000000000):(decDigits u).length≤18:=vGp 18 (by omega) h
theorem vGb (x:Nat):(48:UInt8)+UInt8.ofNat x=UInt8.ofNat (48+x):=by simp
theorem vEp (n:Nat) (hn:n<1000000000000000000) (w:World):
 Calls Tryz.prog 214 #[.int .i64 (n:Int)] w fun e w'=>e=.returned (.string (str (decDigits n)))∧Below w.heap.size w w':=by
 have S1:=vGe;have HN:=hid hn
 go_enter Tryz.func214,Tryz.ntmps214
 go_wp2
 go_loopw [0,3] (fun v s wr=>∃(m:Nat) (t:List UInt8),v=.int .i64 (m:Int)∧s=.string (str t)∧decDigits n=decDigits m++t∧m≤n∧Below w.heap.size w wr) (fun v _ _=>(intOf v).toNat)
 case atStart=>exact ⟨n,[],rfl,rfl,by simp,Nat.le_refl _,Below.refl _ _⟩
 case round=>
  obtain ⟨m,t,rfl,rfl,hd,hm,hb⟩:=hrel
  have ht:t.length≤18:=by
   have h1:=congrArg List.length hd;have h2:=dec_len18 HN.out;simp only [List.length_append] at h1;omega
  have HD:=hid hd;clear hd;have hm18:m<1000000000000000000:=Nat.lt_of_le_of_lt hm HN.out
  by_cases h10:10≤m
  · have HE:=hid (show decDigits m=decDigits (m / 10)++[UInt8.ofNat (48+m % 10)] from vEj (by omega))
    go_wp2
    go_roundw
    case rel=>exact ⟨m / 10,[48+UInt8.ofNat (m % 10)]++t,by go_num,by rw [vBn],by rw [HD.out,HE.out,vGb,List.append_assoc],by omega,hb.alloc hb.size _⟩
    case measure=>simp [intOf];omega
  · have HE:=hid (show decDigits n=[48+UInt8.ofNat m]++t by rw [HD.out,vBt (by omega),vGb])
    go_wp2;go_ret;exact ⟨by rw [HE.out,←vBn];rfl,hb.alloc hb.size _⟩
open Go.Lib (decDigits)
theorem sb_str (l:List UInt8) (k:Nat):sb (str l) k=((l.getD k 0).toNat:Int):=rfl
theorem digF_bad {l:List UInt8} (h:l.length=0∨3<l.length):vHh l=1000:=by unfold vHh;rw [if_pos h]
theorem digF_no {l:List UInt8} {k:Nat} (hk:k<l.length) (h:isD (l.getD k 0)=false):vHh l=1000:=by
 unfold vHh
 split
 · rfl
 · rw [if_neg]
   intro hall
   have:=List.all_eq_true.1 hall (l.getD k 0) (by simp [List.getD,List.getElem?_eq_getElem hk])
   rw [h] at this
   cases this
theorem digF_end {l:List UInt8} (h1:l.length≠0) (h2:l.length≤3) (hD:∀c∈l,isD c=true):vHh l=if decDigits (vGs l)=l then vGs l else 1000:=by
 unfold vHh;rw [if_neg (by omega),if_pos (List.all_eq_true.2 hD)]
theorem valD_lt {l:List UInt8} (hD:∀c∈l,isD c=true):vGs l<10 ^ l.length:=by
 induction l using snoc_ind with
 |h0=>simp [vGs]
 |h1 d c ih=>
  have h1:=ih (fun x hx=>hD x (by simp [hx]));have h2:=(vEv c).1 (hD c (by simp));rw [vCv,List.length_append];simp only [List.length_cons,List.length_nil];have e:10 ^ (d.length+(0+1))=10 ^ d.length * 10:=Nat.pow_succ ..;rw [e];omega
theorem vBq (l:List UInt8) (w:World) (hs:l.length≤maxLen):
 Calls Tryz.prog 219 #[.string (str l)] w fun e w'=>e=.returned (.int .i64 (vHh l:Nat))∧Below w.heap.size w w':=by
 unfold maxLen at hs
 by_cases h0:l.length=0
 · have E:=hid (digF_bad (l:=l) (.inl h0))
   have z:((l.length:Int) == 0)=true:=by rw [h0];rfl
   clear h0
   go_enter Tryz.func219,Tryz.ntmps219
   go_wp2;go_ret;exact ⟨by rw [E.out];rfl,Below.refl _ _⟩
 have z0:((l.length:Int) == 0)=false:=by simp;intro e;subst e;exact h0 rfl
 by_cases h3:3<l.length
 · have E:=hid (digF_bad (l:=l) (.inr h3))
   go_enter Tryz.func219,Tryz.ntmps219
   go_wp2;go_ret;exact ⟨by rw [E.out];rfl,Below.refl _ _⟩
 have H0:=hid h0;clear h0
 go_enter Tryz.func219,Tryz.ntmps219
 go_wp2
 go_loop [3,4] (fun v i=>∃k n:Nat,k≤l.length∧i=.int .i64 (k:Int)∧v=.int .i64 (n:Int)∧n=vGs (l.take k)∧(∀c∈l.take k,isD c=true)) (fun _ i=>l.length - (intOf i).toNat)
 case atStart=>exact ⟨0,0,by omega,rfl,rfl,rfl,fun c h=>by simp at h⟩
 case round=>
  obtain ⟨k,n,hk,rfl,rfl,hv,hD⟩:=hrel
  have hn:n<1000:=by
   have h1:=valD_lt hD;rw [←hv] at h1;have h2:10 ^ (l.take k).length≤10 ^ 3:=Nat.pow_le_pow_right (by decide) (by rw [List.length_take];omega);omega
  have HV:=hid hv;have HD:=hid hD;clear hv hD
  by_cases hlt:k<l.length
  · have x0:=vAy (str l) k k rfl (by rw [vBa];exact hlt)
    have l0:=sb_lo (str l) k;have l1:=sb_hi (str l) k
    by_cases c1:sb (str l) k<48
    · have E:=hid (digF_no hlt (vHt (str l) k (by omega)))
      go_wp2;go_ret;exact ⟨by rw [E.out];rfl,Below.refl _ _⟩
    by_cases c2:57<sb (str l) k
    · have E:=hid (digF_no hlt (vHt (str l) k (by omega)))
      go_wp2;go_ret;exact ⟨by rw [E.out];rfl,Below.refl _ _⟩
    have hd:=(isD_sb (str l) k).2 ⟨by omega,by omega⟩;have N:=hid (show ((n * 10+((l.getD k 0).toNat - 48):Nat):Int)=(n:Int) * 10+sb (str l) k - 48 by rw [sb_str] at c1 ⊢;omega);have V:=hid (show n * 10+((l.getD k 0).toNat - 48)=vGs (l.take (k+1)) by rw [vFk hlt,vCv,←HV.out]);have D:=hid (take_digits hlt HD.out hd);clear hd;go_wp2
    go_round
    case rel=>exact ⟨k+1,n * 10+((l.getD k 0).toNat - 48),hlt,by go_num,by rw [N.out],V.out,D.out⟩
    case measure=>simp [intOf];omega
  · have hkl:k=l.length:=by omega
    have EN:=hid (show n=vGs l by rw [HV.out,hkl,List.take_length]);have E:=hid (digF_end (l:=l) H0.out (by omega) (fun c hc=>HD.out c (by rw [hkl,List.take_length];exact hc)));clear hkl
    by_cases he:decDigits n=l
    · have F:=hid (show vHh l=n by rw [E.out,←EN.out,if_pos he])
      have t1:(decDigits n == l)=true:=by simpa using he
      have t2:(decDigits n != l)=false:=by simpa using he
      clear he;go_wp2_with (go_at_call 214;refine (vEp n (by omega) _).mono ?_;rintro e w1 ⟨rfl,hb1⟩);go_ret;exact ⟨by rw [F.out];rfl,hb1⟩
    · have F:=hid (show vHh l=1000 by rw [E.out,←EN.out,if_neg he])
      have t1:(decDigits n == l)=false:=by simpa using he
      have t2:(decDigits n != l)=true:=by simpa using he
      clear he;go_wp2_with (go_at_call 214;refine (vEp n (by omega) _).mono ?_;rintro e w1 ⟨rfl,hb1⟩);go_ret;exact ⟨by rw [F.out];rfl,hb1⟩
open Go.Lib (decDigits itoa)
theorem dec_len20 {u:Nat} (h:u<18446744073709551616):(decDigits u).length≤20:=vGp 20 (by omega) (by omega)
theorem refDig_any (n:Nat) (hn:n<18446744073709551616) (w:World):
 Calls Tryz.prog 211 #[.int .u64 (n:Int)] w fun e w'=>e=.returned (.string (str (decDigits n)))∧Below w.heap.size w w':=by
 have S1:=vGe;have HN:=hid hn;clear hn
 go_enter Tryz.func211,Tryz.ntmps211
 go_wp2
 go_loopw [0,3] (fun v s wr=>∃(m:Nat) (t:List UInt8),v=.int .u64 (m:Int)∧s=.string (str t)∧decDigits n=decDigits m++t∧m≤n∧Below w.heap.size w wr) (fun v _ _=>(intOf v).toNat)
 case atStart=>exact ⟨n,[],rfl,rfl,by simp,Nat.le_refl _,Below.refl _ _⟩
 case round=>
  obtain ⟨m,t,rfl,rfl,hd,hm,hb⟩:=hrel
  have ht:t.length≤20:=by
   have h1:=congrArg List.length hd;have h2:=dec_len20 HN.out;simp only [List.length_append] at h1;omega
  have HD:=hid hd;clear hd;have hm18:m<18446744073709551616:=Nat.lt_of_le_of_lt hm HN.out
  by_cases h10:10≤m
  · have HE:=hid (show decDigits m=decDigits (m / 10)++[UInt8.ofNat (48+m % 10)] from vEj (by omega))
    go_wp2
    go_roundw
    case rel=>exact ⟨m / 10,[48+UInt8.ofNat (m % 10)]++t,by go_num,by rw [vBn],by rw [HD.out,HE.out,vGb,List.append_assoc],by omega,hb.alloc hb.size _⟩
    case measure=>simp [intOf];omega
  · have HE:=hid (show decDigits n=[48+UInt8.ofNat m]++t by rw [HD.out,vBt (by omega),vGb])
    go_wp2;go_ret;exact ⟨by rw [HE.out,←vBn];rfl,hb.alloc hb.size _⟩
theorem refDig_of (x:Int) (n:Nat) (h:x=(n:Int)) (hn:n<18446744073709551616) (w:World):
 Calls Tryz.prog 211 #[.int .u64 x] w fun e w'=>e=.returned (.string (str (decDigits n)))∧Below w.heap.size w w':=by
 subst h;exact refDig_any n hn w
theorem vAo (n:Int) (h0: -9223372036854775808≤n) (h1:n≤9223372036854775807) (w:World):
 Calls Tryz.prog 192 #[.int .i64 n] w fun e w'=>e=.returned (.string (str (itoa n)))∧Below w.heap.size w w':=by
 by_cases hn:n<0
 · have HT:=hid (show itoa n=45 :: decDigits n.natAbs by unfold Lib.itoa;rw [if_pos hn])
   have hl:=dec_len20 (u:=n.natAbs) (by omega)
   go_enter Tryz.func192,Tryz.ntmps192
   go_wp2_with (go_at_call 211;(with_reducible refine (refDig_of _ n.natAbs (by omega) (by omega) _).mono ?_);rintro e w1 ⟨rfl,hb1⟩);go_ret;exact ⟨by rw [HT.out,show (45 :: decDigits n.natAbs:List UInt8)=[45]++decDigits n.natAbs from rfl,←vBn];rfl,hb1⟩
 · have HT:=hid (show itoa n=decDigits n.natAbs by unfold Lib.itoa;rw [if_neg hn];congr 1;omega)
   go_enter Tryz.func192,Tryz.ntmps192
   go_wp2_with (go_at_call 211;(with_reducible refine (refDig_of _ n.natAbs (by omega) (by omega) _).mono ?_);rintro e w1 ⟨rfl,hb1⟩);go_ret;exact ⟨by rw [HT.out];rfl,hb1⟩
open Go.Lib (decDigits itoa atoiAll)
def nV (l:List UInt8) (lo hi:Int):Int:=(nF l lo hi).getD 0
def nB (l:List UInt8) (lo hi:Int):Bool:=(nF l lo hi).isSome
theorem n_no {l:List UInt8} {lo hi:Int} (h:nF l lo hi=none):nV l lo hi=0∧nB l lo hi=false:=by unfold nV nB;rw [h];exact ⟨rfl,rfl⟩
theorem n_yes {l:List UInt8} {lo hi n:Int} (h:nF l lo hi=some n):nV l lo hi=n∧nB l lo hi=true:=by unfold nV nB;rw [h];exact ⟨rfl,rfl⟩
theorem vFu (A:Option Addr) (n c:Nat) (xs:List Int) (w:World) (h:ISl w .i64 A n c xs):
 Calls Tryz.prog 154 #[.slice A n c] w fun e w'=>e=.returned (.bool (risB xs))∧Drew w w':=by
 have hle:=h.le;have hcap:=h.cap;have H:=hid h;clear h
 by_cases h1:n<1
 · have E:=hid (risB_no xs (.inl (by rw [H.out.len];exact h1)))
   go_enter Tryz.func154,Tryz.ntmps154
   go_wp2;go_ret;exact ⟨by rw [E.out];rfl,Drew.refl _⟩
 by_cases h2:16<n
 · have E:=hid (risB_no xs (.inr (by rw [H.out.len];exact h2)))
   go_enter Tryz.func154,Tryz.ntmps154
   go_wp2;go_ret;exact ⟨by rw [E.out];rfl,Drew.refl _⟩
 obtain ⟨b,off,rfl,hb,hc⟩:=H.out.2.2.2 (by omega);have HC:=hid hc;clear hc
 go_enter Tryz.func154,Tryz.ntmps154
 go_wp2
 go_loopw [3] (fun i wr=>∃k:Nat,1≤k∧k≤n∧i=.int .i64 (k:Int)∧Up xs k∧Drew w wr) (fun i _=>n - (intOf i).toNat)
 case atStart=>exact ⟨1,by omega,by omega,rfl,Up.one _,Drew.refl _⟩
 case round=>
  obtain ⟨k,hk1,hk,rfl,hup,m,rfl⟩:=hrel;have U:=hid hup;clear hup
  by_cases hlt:k<n
  · have c0:w.cell? ⟨b,off+k,none⟩=some (.int .i64 (xs.getD k 0)):=HC.out k hlt
    have c1:w.cell? ⟨b,off+(k - 1),none⟩=some (.int .i64 (xs.getD (k - 1) 0)):=HC.out (k - 1) (by omega);generalize hx:xs.getD k 0=x at c0;generalize hy:xs.getD (k - 1) 0=y at c1;have HX:=hid hx;have HY:=hid hy;clear hx hy;have d1:IntKind.i64.wrap ((k:Int) - 1)=(k:Int) - 1:=IntWalk.i64_in _ (by omega)
    have d2:(0:Int)≤(k:Int) - 1:=by omega
    have d3:((k:Int) - 1).toNat=k - 1:=by omega
    have d4:(k:Int) - 1<(n:Int):=by omega
    by_cases hle2:x≤y
    · have E:=hid (risB_down (xs:=xs) (k:=k) (by omega) (by rw [H.out.len];exact hlt) (by rw [HX.out,HY.out];exact hle2))
      go_wp2
      go_quiet (fail)
      go_wp2;go_ret;exact ⟨by rw [E.out];rfl,⟨m+nq,by rw [vDd]⟩⟩
    · have E:=hid (U.out.next (by rw [HX.out,HY.out];omega))
      go_wp2
      go_quiet (fail)
      clear d1 d2 d3 d4;go_wp2
      go_roundw
      case rel=>exact ⟨k+1,by omega,by omega,by go_num,E.out,⟨m+nq,rfl⟩⟩
      case measure=>simp [intOf];omega
  · obtain rfl:k=n:=by omega
    have E:=hid (show risB xs=true from (vCd xs).2 ⟨by rw [H.out.len];omega,by rw [H.out.len];omega,by rw [H.out.len];exact U.out⟩);go_wp2;go_ret;exact ⟨by rw [E.out];rfl,⟨m,rfl⟩⟩
theorem ris_any (A:Option Addr) (n c:Nat) (xs:List Int) (lo hi:Int) (w:World) (h:ISl w .i64 A n c xs):
 Calls Tryz.prog 133 #[.slice A n c,.int .i64 lo,.int .i64 hi] w fun e w'=>e=.returned (.bool (vBs xs lo hi))∧Drew w w':=by
 have hle:=h.le;have hcap:=h.cap;have H:=hid h;clear h
 cases hr:risB xs with
 |false=>
  have E:=hid (show vBs xs lo hi=false by simp [vBs,hr]);have HR:=hid hr;clear hr
  go_enter Tryz.func133,Tryz.ntmps133
  go_wp2_with (go_at_call 154;refine (vFu _ _ _ _ _ H.out).mono ?_;rintro e w1 ⟨rfl,hd1⟩;rw [HR.out]);go_ret;exact ⟨by rw [E.out];rfl,hd1⟩
 |true=>
  obtain ⟨l1,l2,_⟩:=(vCd xs).1 hr;have hn:=H.out.len;obtain ⟨b,off,rfl,hb,hc⟩:=H.out.2.2.2 (by omega);have E:=risIn_ends xs lo hi hr;rw [hn] at E l1;have c0:w.cell? ⟨b,off+0,none⟩=some (.int .i64 (xs.getD 0 0)):=hc 0 (by omega);have c1:w.cell? ⟨b,off+(n - 1),none⟩=some (.int .i64 (xs.getD (n - 1) 0)):=hc (n - 1) (by omega);generalize xs.getD 0 0=x at c0 E;generalize xs.getD (n - 1) 0=y at c1 E
  rw [Nat.add_zero] at c0;have HC0:=hid c0;have HC1:=hid c1;have HR:=hid hr;have EE:=hid (show vBs xs lo hi=(decide (lo≤x) && decide (y≤hi)) by rw [←E];simp [vBs,hr])
  have d3:((n:Int) - 1).toNat=n - 1:=by omega
  clear hc c0 c1 hr E hn
  go_enter Tryz.func133,Tryz.ntmps133
  by_cases k1:lo≤x
  · have K1:=hid k1
    by_cases k2:y≤hi
    · go_wp2_with (go_at_call 154;refine (vFu _ _ _ _ _ H.out).mono ?_;rintro e w1 ⟨rfl,m,rfl⟩;rw [HR.out];have c0:=HC0.out;have c1:=HC1.out)
      go_ret;exact ⟨by rw [EE.out];simp [k1,k2],⟨m,rfl⟩⟩
    · go_wp2_with (go_at_call 154;refine (vFu _ _ _ _ _ H.out).mono ?_;rintro e w1 ⟨rfl,m,rfl⟩;rw [HR.out];have c0:=HC0.out;have c1:=HC1.out)
      go_ret;exact ⟨by rw [EE.out];have:=K1.out;simp;omega,⟨m,rfl⟩⟩
  · go_wp2_with (go_at_call 154;refine (vFu _ _ _ _ _ H.out).mono ?_;rintro e w1 ⟨rfl,m,rfl⟩;rw [HR.out];have c0:=HC0.out)
    go_ret;exact ⟨by rw [EE.out];simp;omega,⟨m,rfl⟩⟩
open Go.Lib (decDigits itoa atoiAll)
theorem own_slice {w:World} {B n:Nat} {e:TypeId} {v:Value} {xs:List Value} (h:w.ownsRow B e 1 v n xs):∃A c,v=.slice A n c∧n≤c∧c≤maxLen:=by
 rcases h.2 with ⟨rfl,rfl⟩|⟨g,cap,cur,rfl,_,_,h1,h2,_⟩
 · exact ⟨_,_,rfl,Nat.le_refl _,Nat.zero_le _⟩
 · exact ⟨_,_,rfl,h1,h2⟩
theorem own_keep {w w':World} {B n:Nat} {e:TypeId} {v:Value} {xs:List Value} (h:w.ownsRow B e 1 v n xs) (hb:Below w.heap.size w w'):w'.ownsRow B e 1 v n xs:=
 h.kept (row:=none) ⟨hb.os,hb.tape,hb.output,hb.size,fun k hk _=>hb.block k hk⟩ (by cases hx:v.ownBlock<;>simp)
structure RL (rd:List UInt8→Option Int) (l r:List UInt8) (more:Bool) (xs:List Int):Prop where
 bd:xs.length≤17
 le:r.length≤l.length
 ps:∃ps,vBr rd ps=some xs∧vAh l=ps++(if more=true then vAh r else [])
def lsV (rd:List UInt8→Option Int) (l:List UInt8):List Int:=(rlF rd l).getD []
def lsB (rd:List UInt8→Option Int) (l:List UInt8):Bool:=(rlF rd l).isSome
theorem ls_no {rd:List UInt8→Option Int} {l:List UInt8} (h:rlF rd l=none):lsV rd l=[]∧lsB rd l=false:=by unfold lsV lsB;rw [h];exact ⟨rfl,rfl⟩
theorem ls_yes {rd:List UInt8→Option Int} {l:List UInt8} {xs:List Int} (h:rlF rd l=some xs):lsV rd l=xs∧lsB rd l=true:=by unfold lsV lsB;rw [h];exact ⟨rfl,rfl⟩
theorem own_at {w:World} {B:Nat} {e:TypeId} {A:Option Addr} {n m c:Nat} {xs:List Value} (h:w.ownsRow B e 1 (.slice A m c) n xs) (ad:Addr) (hA:A=some ad):B≤ad.block:=by
 rcases h.2 with ⟨hv,_⟩|⟨g,cap,cur,hv,hB,_⟩
 · injection hv with h1;rw [hA] at h1;cases h1
 · injection hv with h1;rw [hA] at h1;cases h1;exact hB
def GotLF (k:IntKind) (xs:List Int) (b:Bool) (w:World) (e:Ending) (w':World):Prop:=
 ∃A n c,e=.returned (.tuple #[.slice A n c,.bool b])∧ISl w' k A n c xs∧Below w.heap.size w w'∧∀ad,A=some ad→w.heap.size≤ad.block
theorem GotLF.none_ {k:IntKind} {rd:List UInt8→Option Int} {l:List UInt8} {w w':World} {e:Ending} (h:rlF rd l=none) (hb:Below w.heap.size w w') (he:e=.returned (.tuple #[.slice none 0 0,.bool false])):GotLF k (lsV rd l) (lsB rd l) w e w':=by
 obtain ⟨h1,h2⟩:=ls_no h;exact ⟨none,0,0,by rw [he,h2],by rw [h1];exact ISl.nil,hb,fun _ h=>by cases h⟩
theorem GotLF.some_ {k:IntKind} {rd:List UInt8→Option Int} {l:List UInt8} {w w':World} {e:Ending} {xs:List Int} {A:Option Addr} {n c:Nat} (h:rlF rd l=some xs) (hb:Below w.heap.size w w') (hi:ISl w' k A n c xs) (hf:∀ad,A=some ad→w.heap.size≤ad.block) (he:e=.returned (.tuple #[.slice A n c,.bool true])):GotLF k (lsV rd l) (lsB rd l) w e w':=by
 obtain ⟨h1,h2⟩:=ls_yes h;exact ⟨A,n,c,by rw [he,h2],by rw [h1];exact hi,hb,hf⟩
abbrev rdI (lo hi:Int) (l:List UInt8):Option Int:=nF l lo hi
def rdA (l:List UInt8):Option Int:=(rdF l).map fun n=>(n:Int)
theorem rdA_no {l:List UInt8} (h:rdA l=none):rdV l=0∧rdB l=false:=by
 refine rd_no ?_
 cases hx:rdF l with
 |none=>rfl
 |some n=>unfold rdA at h;rw [hx] at h;cases h
theorem rdA_yes {l:List UInt8} {x:Int} (h:rdA l=some x):rdV l=x∧rdB l=true:=by
 cases hx:rdF l with
 |none=>unfold rdA at h;rw [hx] at h;cases h
 |some n=>
  unfold rdA at h;rw [hx] at h
  have:(n:Int)=x:=by simpa using h
  rw [←this];exact rd_yes hx
theorem Tryz.info3:(Tryz.prog.info? 3).map (fun i=>(i.zero,i.size,i.bytes))=some (some (.int .i64 0),1,8):=by kernel_rfl
theorem Tryz.info33:(Tryz.prog.info? 33).map (fun i=>(i.zero,i.size,i.bytes))=some (some (.int .u32 0),1,4):=by kernel_rfl
theorem list_more {k:IntKind} {e:TypeId} {a w2 w3:World} {xs:List Int} {x:Int} {u v:Value} {o1:Obj} (hbb:Below a.heap.size a w2)
 (hown2:w2.ownsRow a.heap.size e 1 u xs.length (xs.map (Value.int k)))
 (hown3:w3.ownsRow a.heap.size e 1 v (xs.length+1) (xs.map (Value.int k)++[.int k x]))
 (hg:(w2.alloc o1).grownBy w3 u.ownBlock):
 w3.ownsRow a.heap.size e 1 v (xs++[x]).length ((xs++[x]).map (Value.int k))∧Below a.heap.size a w3:=
 ⟨by simpa using hown3,vDc (hbb.alloc hbb.size o1) (hown2.alloc o1) hg⟩
def Lc (x:Int):Prop:=97≤x∧x≤122
def Dc (x:Int):Prop:=48≤x∧x≤57
def vIi (s:ByteArray):Prop:=1≤s.size∧s.size≤12∧Lc (sb s 0)∧∀j,j<s.size→Lc (sb s j)∨Dc (sb s j)
theorem letter_yes (x:Int) (h1:97≤x) (h2:x≤122) (w:World):Calls Tryz.prog 182 #[.int .u8 x] w fun e w'=>e=.returned (.bool true)∧w=w':=by
 go_enter Tryz.func182,Tryz.ntmps182
 go_wp2;go_ret;exact ⟨rfl,rfl⟩
theorem letter_no (x:Int) (h:¬Lc x) (w:World):Calls Tryz.prog 182 #[.int .u8 x] w fun e w'=>e=.returned (.bool false)∧w=w':=by
 unfold Lc at h
 by_cases h1:97≤x
 · have h2:¬x≤122:=fun h2=>h ⟨h1,h2⟩
   clear h
   go_enter Tryz.func182,Tryz.ntmps182
   go_wp2;go_ret;exact ⟨rfl,rfl⟩
 · clear h
   go_enter Tryz.func182,Tryz.ntmps182
   go_wp2;go_ret;exact ⟨rfl,rfl⟩
theorem digit_yes (x:Int) (h1:48≤x) (h2:x≤57) (w:World):Calls Tryz.prog 183 #[.int .u8 x] w fun e w'=>e=.returned (.bool true)∧w=w':=by
 go_enter Tryz.func183,Tryz.ntmps183
 go_wp2;go_ret;exact ⟨rfl,rfl⟩
theorem digit_no (x:Int) (h:¬Dc x) (w:World):Calls Tryz.prog 183 #[.int .u8 x] w fun e w'=>e=.returned (.bool false)∧w=w':=by
 unfold Dc at h
 by_cases h1:48≤x
 · have h2:¬x≤57:=fun h2=>h ⟨h1,h2⟩
   clear h
   go_enter Tryz.func183,Tryz.ntmps183
   go_wp2;go_ret;exact ⟨rfl,rfl⟩
 · clear h
   go_enter Tryz.func183,Tryz.ntmps183
   go_wp2;go_ret;exact ⟨rfl,rfl⟩
theorem name_any (s:ByteArray) (w:World) (hs:s.size≤maxLen) (v:Bool) (hv:v=true↔vIi s):
 Calls Tryz.prog 173 #[.string s] w fun e w'=>e=.returned (.bool v)∧w=w':=by
 unfold maxLen at hs
 have no:¬vIi s→Hid (v=false):=fun h=>hid (by cases v with|false=>rfl|true=>exact absurd (hv.1 rfl) h)
 have yes:vIi s→Hid (v=true):=fun h=>hid (hv.2 h)
 have NO:=hid no;have YES:=hid yes;clear no yes hv
 by_cases h1:s.size<1
 · have E:=NO.out (fun h=>by have:=h.1;omega)
   go_enter Tryz.func173,Tryz.ntmps173
   go_wp2;go_ret;exact ⟨by rw [E.out];rfl,rfl⟩
 by_cases h2:12<s.size
 · have E:=NO.out (fun h=>by have:=h.2.1;omega)
   go_enter Tryz.func173,Tryz.ntmps173
   go_wp2;go_ret;exact ⟨by rw [E.out];rfl,rfl⟩
 have x0:=vAy s 0 0 rfl (by omega)
 by_cases h3:Lc (sb s 0)
 · have L0:=hid h3
   obtain ⟨a1,a2⟩:=h3
   go_enter Tryz.func173,Tryz.ntmps173
   go_wp2_with (go_at_call 182;refine (letter_yes _ a1 a2 _).mono ?_;rintro e w' ⟨rfl,rfl⟩);clear x0 a1 a2
   go_loop [20] (fun i=>∃k:Nat,k≤s.size∧i=.int .i64 (k:Int)∧∀j,j<k→Lc (sb s j)∨Dc (sb s j)) (fun i=>s.size - (intOf i).toNat)
   case atStart=>exact ⟨0,by omega,rfl,fun j hj=>by omega⟩
   case round=>
    obtain ⟨k,hk,rfl,hall⟩:=hrel;have A:=hid hall;clear hall
    by_cases hlt:k<s.size
    · have x1:=vAy s k k rfl hlt
      by_cases hL:Lc (sb s k)
      · have HL:=hid hL
        obtain ⟨b1,b2⟩:=hL;go_wp2_with (go_at_call 182;refine (letter_yes _ b1 b2 _).mono ?_;rintro e w' ⟨rfl,rfl⟩)
        go_round
        case rel=>exact ⟨k+1,by omega,by go_num,fun j hj=>by
         by_cases e:j=k
         · subst e;exact .inl HL.out
         · exact A.out j (by omega)⟩
        case measure=>simp [intOf];omega
      · have HNL:=hid hL
        by_cases hD:Dc (sb s k)
        · have HD:=hid hD
          obtain ⟨b1,b2⟩:=hD;clear hL
          go_wp2_with (first
           |(go_at_call 182;refine (letter_no _ HNL.out _).mono ?_;rintro e w' ⟨rfl,rfl⟩)
           |(go_at_call 183;refine (digit_yes _ b1 b2 _).mono ?_;rintro e w' ⟨rfl,rfl⟩))
          go_round
          case rel=>exact ⟨k+1,by omega,by go_num,fun j hj=>by
           by_cases e:j=k
           · subst e;exact .inr HD.out
           · exact A.out j (by omega)⟩
          case measure=>simp [intOf];omega
        · have HND:=hid hD
          have E:=NO.out (fun h=>(h.2.2.2 k hlt).elim HNL.out HND.out);clear hL hD
          go_wp2_with (first
           |(go_at_call 182;refine (letter_no _ HNL.out _).mono ?_;rintro e w' ⟨rfl,rfl⟩)
           |(go_at_call 183;refine (digit_no _ HND.out _).mono ?_;rintro e w' ⟨rfl,rfl⟩))
          go_ret;exact ⟨by rw [E.out];rfl,rfl⟩
    · have E:=YES.out ⟨by omega,by omega,L0.out,fun j hj=>A.out j (by omega)⟩
      go_wp2;go_ret;exact ⟨by rw [E.out];rfl,rfl⟩
 · have HN:=hid h3
   have E:=NO.out (fun h=>HN.out h.2.2.1);clear h3
   go_enter Tryz.func173,Tryz.ntmps173
   go_wp2_with (go_at_call 182;refine (letter_no _ HN.out _).mono ?_;rintro e w' ⟨rfl,rfl⟩);go_ret;exact ⟨by rw [E.out];rfl,rfl⟩
theorem refName_any (s:ByteArray) (w:World) (hs:s.size≤maxLen) (v:Bool) (hv:v=true↔vIi s):
 Calls Tryz.prog 201 #[.string s] w fun e w'=>e=.returned (.bool v)∧w=w':=by
 unfold maxLen at hs
 have no:¬vIi s→Hid (v=false):=fun h=>hid (by cases v with|false=>rfl|true=>exact absurd (hv.1 rfl) h)
 have yes:vIi s→Hid (v=true):=fun h=>hid (hv.2 h)
 have NO:=hid no;have YES:=hid yes;clear no yes hv
 by_cases h1:s.size<1
 · have E:=NO.out (fun h=>by have:=h.1;omega)
   go_enter Tryz.func201,Tryz.ntmps201
   go_wp2;go_ret;exact ⟨by rw [E.out];rfl,rfl⟩
 by_cases h2:12<s.size
 · have E:=NO.out (fun h=>by have:=h.2.1;omega)
   go_enter Tryz.func201,Tryz.ntmps201
   go_wp2;go_ret;exact ⟨by rw [E.out];rfl,rfl⟩
 have x0:=vAy s 0 0 rfl (by omega);have HX0:=hid x0
 by_cases h3:sb s 0<97
 · have E:=NO.out (fun h=>by have:=h.2.2.1.1;omega)
   go_enter Tryz.func201,Tryz.ntmps201
   go_wp2;go_ret;exact ⟨by rw [E.out];rfl,rfl⟩
 by_cases h4:122<sb s 0
 · have E:=NO.out (fun h=>by have:=h.2.2.1.2;omega)
   go_enter Tryz.func201,Tryz.ntmps201
   go_wp2;go_ret;exact ⟨by rw [E.out];rfl,rfl⟩
 have L0:=hid (show Lc (sb s 0) from ⟨by omega,by omega⟩)
 go_enter Tryz.func201,Tryz.ntmps201
 go_wp2;clear x0 h3 h4
 go_loop [3] (fun i=>∃k:Nat,k≤s.size∧i=.int .i64 (k:Int)∧∀j,j<k→Lc (sb s j)∨Dc (sb s j)) (fun i=>s.size - (intOf i).toNat)
 case atStart=>exact ⟨0,by omega,rfl,fun j hj=>by omega⟩
 case round=>
  obtain ⟨k,hk,rfl,hall⟩:=hrel;have A:=hid hall;clear hall
  by_cases hlt:k<s.size
  · have x1:=vAy s k k rfl hlt
    rcases (show (97≤sb s k∧sb s k≤122)∨(48≤sb s k∧sb s k≤57)∨sb s k<48∨(57<sb s k∧sb s k<97)∨122<sb s k by omega) with ⟨b1,b2⟩|⟨b1,b2⟩|b1|⟨b1,b2⟩|b1
    · have HL:=hid (show Lc (sb s k) from ⟨b1,b2⟩)
      go_wp2
      go_round
      case rel=>exact ⟨k+1,by omega,by go_num,fun j hj=>by
       by_cases e:j=k
       · subst e;exact .inl HL.out
       · exact A.out j (by omega)⟩
      case measure=>simp [intOf];omega
    · have HD:=hid (show Dc (sb s k) from ⟨b1,b2⟩)
      have b3:sb s k<97:=by omega
      go_wp2
      go_round
      case rel=>exact ⟨k+1,by omega,by go_num,fun j hj=>by
       by_cases e:j=k
       · subst e;exact .inr HD.out
       · exact A.out j (by omega)⟩
      case measure=>simp [intOf];omega
    all_goals
     have E:=NO.out (fun h=>by have:=h.2.2.2 k hlt;unfold Lc Dc at this;omega);go_wp2;go_ret;exact ⟨by rw [E.out];rfl,rfl⟩
  · have E:=YES.out ⟨by omega,by omega,L0.out,fun j hj=>A.out j (by omega)⟩
    go_wp2;go_ret;exact ⟨by rw [E.out];rfl,rfl⟩
def pfB (l:List UInt8):Bool:=(pfF l).isSome
theorem vGd {w W w':World} {b:Nat} {x y:Value} (hb:Below W.heap.size W w') (h:W.cell? ⟨b,0,none⟩=some x∧W.cell? ⟨b,1,none⟩=some y∧Below w.heap.size w W∧b<W.heap.size):
 w'.cell? ⟨b,0,none⟩=some x∧w'.cell? ⟨b,1,none⟩=some y∧Below w.heap.size w w'∧b<w'.heap.size:=
 ⟨(hb.cell (p:=⟨b,0,none⟩) h.2.2.2).trans h.1,(hb.cell (p:=⟨b,1,none⟩) h.2.2.2).trans h.2.1,h.2.2.1.trans (hb.mono h.2.2.1.size),Nat.lt_of_lt_of_le h.2.2.2 hb.size⟩
theorem vFo {w W:World} {b:Nat} {x y:Value} (h0:W.cell? ⟨b,0,none⟩=some x) (h1:W.cell? ⟨b,1,none⟩=some y) (hB:Below w.heap.size w W) (hl:b<W.heap.size):
 W.drew.cell? ⟨b,0,none⟩=some x∧W.drew.cell? ⟨b,1,none⟩=some y∧Below w.heap.size w W.drew∧b<W.drew.heap.size:=
 ⟨h0,h1,⟨hB.os,hB.tape,hB.output,hB.size,hB.block⟩,hl⟩
theorem boxed_first {w w1:World} {x y:Value} {T:TypeId} (hb1:Below (w.alloc (.cells #[x,y] T)).heap.size (w.alloc (.cells #[x,y] T)) w1):
 w1.cell? ⟨w.heap.size,0,none⟩=some x∧w1.cell? ⟨w.heap.size,1,none⟩=some y∧Below w.heap.size w w1∧w.heap.size<w1.heap.size:=by
 have hz:w.heap.size<(w.alloc (.cells #[x,y] T)).heap.size:=by simp
 have h0:=hb1.cell (p:=⟨w.heap.size,0,none⟩) hz;have h1:=hb1.cell (p:=⟨w.heap.size,1,none⟩) hz;refine ⟨by rw [h0];simp,by rw [h1];simp,((Below.refl w.heap.size w).alloc (Nat.le_refl _) _).trans (hb1.mono (by simp)),Nat.lt_of_lt_of_le hz hb1.size⟩
theorem right_any (A B:Int) (w:World):Calls Tryz.prog 199 #[.agg #[.int .u32 A,.int .i64 B]] w fun e w'=>e=.returned (.bool (RT B))∧Below w.heap.size w w':=by
 by_cases h0:0≤B
 · by_cases h1:B≤32
   · have e:=hid (show RT B=true by simp [RT];omega)
     go_enter Tryz.func199,Tryz.ntmps199
     go_wp2;go_ret;exact ⟨by rw [e.out];rfl,(Below.refl _ _).alloc (Nat.le_refl _) _⟩
   · have e:=hid (show RT B=false by simp [RT];omega)
     go_enter Tryz.func199,Tryz.ntmps199
     go_wp2;go_ret;exact ⟨by rw [e.out];rfl,(Below.refl _ _).alloc (Nat.le_refl _) _⟩
 · have e:=hid (show RT B=false by simp [RT];omega)
   go_enter Tryz.func199,Tryz.ntmps199
   go_wp2;go_ret;exact ⟨by rw [e.out];rfl,(Below.refl _ _).alloc (Nat.le_refl _) _⟩
theorem right_is (A B:Int) (v:Bool) (h:RT B=v) (w:World):Calls Tryz.prog 199 #[.agg #[.int .u32 A,.int .i64 B]] w fun e w'=>e=.returned (.bool v)∧Below w.heap.size w w':=by
 have:=right_any A B w
 rw [h] at this;exact this
theorem free_any (A:Int) (b:Nat) (hb:b≤32) (w:World):Calls Tryz.prog 200 #[.agg #[.int .u32 A,.int .i64 (b:Int)]] w fun e w'=>e=.returned (.int .u32 ((sz b - 1:Nat):Int))∧Below w.heap.size w w':=by
 have e:=hid (free_eq b hb)
 go_enter Tryz.func200,Tryz.ntmps200
 go_wp2;go_ret;exact ⟨by rw [←e.out];simp,(Below.refl _ _).alloc (Nat.le_refl _) _⟩
theorem first_no (A B:Int) (hr:RT B=false) (w:World):Calls Tryz.prog 186 #[.agg #[.int .u32 A,.int .i64 B]] w fun e w'=>e=.returned (.int .u32 0)∧Below w.heap.size w w':=by
 go_enter Tryz.func186,Tryz.ntmps186
 go_wp2_with (go_at_call 199;refine (right_is A B false hr _).mono ?_;rintro e w1 ⟨rfl,hb1⟩);go_ret;exact ⟨rfl,((Below.refl _ _).alloc (Nat.le_refl _) _).trans (hb1.mono (by simp))⟩
theorem first_yes (A b:Nat) (hA:A<4294967296) (hb:b≤32) (w:World):Calls Tryz.prog 186 #[.agg #[.int .u32 (A:Int),.int .i64 (b:Int)]] w fun e w'=>e=.returned (.int .u32 (fsN A b:Nat))∧Below w.heap.size w w':=by
 have hr:RT (b:Int)=true:=by rw [RT_iff];omega
 have hsz:=sz_le b;have hsp:=sz_pos b;have e1:=u32_andNot (A:Int) ((sz b - 1:Nat):Int) (by omega) (by omega) (by omega) (by omega)
 have e2:=hid (show (((A:Int).toNat &&& (4294967295 - ((sz b - 1:Nat):Int).toNat):Nat):Int)=((fsN A b:Nat):Int) by
  have:=and_high A (32 - b) hA (by omega)
  rw [show (A:Int).toNat=A by omega,show ((sz b - 1:Nat):Int).toNat=sz b - 1 by omega];unfold fsN sz
  rw [this])
 rw [e2.out] at e1
 go_enter Tryz.func186,Tryz.ntmps186
 go_wp2_with (go_at_call 199;refine (right_is A b true hr _).mono ?_;rintro e w1 ⟨rfl,hb1⟩;obtain ⟨hc0,hc1,hB1,hl1⟩:=boxed_first hb1)
 go_region_held3 (fun w'=>w'.cell? ⟨w.heap.size,0,none⟩=some (.int .u32 (A:Int))∧w'.cell? ⟨w.heap.size,1,none⟩=some (.int .i64 (b:Int))∧Below w.heap.size w w'∧w.heap.size<w'.heap.size) (first|exact vGd (by assumption) (by assumption)|exact vFo hc0 hc1 hB1 hl1)
  (first|(go_at_call 200;refine (free_any A b hb _).mono ?_;rintro e w2 ⟨rfl,hb2⟩))
 all_goals
  go_wp2;go_ret;exact ⟨rfl,(vGd (by assumption) (vFo hc0 hc1 hB1 hl1)).2.2.1⟩
theorem last_no (A B:Int) (hr:RT B=false) (w:World):Calls Tryz.prog 187 #[.agg #[.int .u32 A,.int .i64 B]] w fun e w'=>e=.returned (.int .u32 0)∧Below w.heap.size w w':=by
 go_enter Tryz.func187,Tryz.ntmps187
 go_wp2_with (go_at_call 199;refine (right_is A B false hr _).mono ?_;rintro e w1 ⟨rfl,hb1⟩);go_ret;exact ⟨rfl,((Below.refl _ _).alloc (Nat.le_refl _) _).trans (hb1.mono (by simp))⟩
theorem last_yes (A b:Nat) (hA:A<4294967296) (hb:b≤32) (w:World):Calls Tryz.prog 187 #[.agg #[.int .u32 (A:Int),.int .i64 (b:Int)]] w fun e w'=>e=.returned (.int .u32 (lsN A b:Nat))∧Below w.heap.size w w':=by
 have hr:RT (b:Int)=true:=by rw [RT_iff];omega
 have hsz:=sz_le b;have hsp:=sz_pos b;have e1:=u32_or (A:Int) ((sz b - 1:Nat):Int) (by omega) (by omega) (by omega) (by omega)
 have e2:=hid (show (((A:Int).toNat |||((sz b - 1:Nat):Int).toNat:Nat):Int)=((lsN A b:Nat):Int) by
  have:=or_low A (32 - b)
  rw [show (A:Int).toNat=A by omega,show ((sz b - 1:Nat):Int).toNat=sz b - 1 by omega];unfold lsN sz
  rw [this])
 rw [e2.out] at e1
 go_enter Tryz.func187,Tryz.ntmps187
 go_wp2_with (go_at_call 199;refine (right_is A b true hr _).mono ?_;rintro e w1 ⟨rfl,hb1⟩;obtain ⟨hc0,hc1,hB1,hl1⟩:=boxed_first hb1)
 go_region_held3 (fun w'=>w'.cell? ⟨w.heap.size,0,none⟩=some (.int .u32 (A:Int))∧w'.cell? ⟨w.heap.size,1,none⟩=some (.int .i64 (b:Int))∧Below w.heap.size w w'∧w.heap.size<w'.heap.size) (first|exact vGd (by assumption) (by assumption)|exact vFo hc0 hc1 hB1 hl1)
  (first|(go_at_call 200;refine (free_any A b hb _).mono ?_;rintro e w2 ⟨rfl,hb2⟩))
 all_goals
  go_wp2;go_ret;exact ⟨rfl,(vGd (by assumption) (vFo hc0 hc1 hB1 hl1)).2.2.1⟩
theorem Tryz.info9:(Tryz.prog.info? 9).map (fun i=>(i.zero,i.size,i.bytes))=some (some (.string ⟨#[]⟩),1,16):=by kernel_rfl
def SSl (w:World) (A:Option Addr) (n c:Nat) (ps:List (List UInt8)):Prop:=
 ps.length=n∧n≤c∧c≤maxLen∧(0<n→∃b off,A=some ⟨b,off,none⟩∧b<w.heap.size∧∀j,j<n→w.cell? ⟨b,off+j,none⟩=some (.string (str (ps.getD j []))))
def txts (ps:List (List UInt8)):List Value:=ps.map fun p=>Value.string (str p)
theorem SSl.below {w w':World} {A:Option Addr} {n c:Nat} {ps:List (List UInt8)} (h:SSl w A n c ps) (hb:Below w.heap.size w w'):SSl w' A n c ps:=
 ⟨h.1,h.2.1,h.2.2.1,fun hn=>by
   obtain ⟨b,off,e,hl,hc⟩:=h.2.2.2 hn
   exact ⟨b,off,e,Nat.lt_of_lt_of_le hl hb.size,fun j hj=>(hb.cell (p:=⟨b,off+j,none⟩) hl).trans (hc j hj)⟩⟩
theorem SSl.of_own {w:World} {A:Option Addr} {n c B:Nat} {e:TypeId} {ps:List (List UInt8)} (h:w.ownsRow B e 1 (.slice A n c) n (txts ps)):SSl w A n c ps:=by
 have hl:=h.1;rw [txts,List.length_map,Nat.mul_one] at hl
 rcases h.2 with ⟨hv,hn⟩|⟨g,cap,cur,hv,hB,hh,hnc,hm,_⟩
 · injection hv with h1 h2 h3
   subst h1 h3 hn;exact ⟨hl,Nat.le_refl _,Nat.zero_le _,fun h=>absurd h (by omega)⟩
 · injection hv with h1 h2 h3
   subst h1 h3;refine ⟨hl,hnc,hm,fun hn=>⟨g,0,rfl,?_,fun j hj=>?_⟩⟩
   · rcases Nat.lt_or_ge g w.heap.size with h'|h'
     · exact h'
     · rw [Array.getElem?_eq_none h'] at hh;cases hh
   · have:=h.cells (g:=g) rfl j (.string (str (ps.getD j []))) (by simp [txts,List.getD,List.getElem?_eq_getElem (show j<ps.length by omega)])
     rw [←this]
     by_cases h0:j=0<;>simp [Addr.add,h0]
section
variable {w w':World} {A:Option Addr} {n c:Nat} {ps:List (List UInt8)}
theorem SSl.len (h:SSl w A n c ps):ps.length=n:=h.1
theorem SSl.le (h:SSl w A n c ps):n≤c:=h.2.1
theorem SSl.cap (h:SSl w A n c ps):c≤9223372036854775807:=by have:=h.2.2.1;unfold maxLen at this;omega
theorem SSl.at_ (h:SSl w A n c ps) (hn:0<n):∃b off,A=some ⟨b,off,none⟩∧b<w.heap.size∧∀j,j<n→w.cell? ⟨b,off+j,none⟩=some (.string (str (ps.getD j []))):=h.2.2.2 hn
theorem SSl.alloc (h:SSl w A n c ps) (o:Obj):SSl (w.alloc o) A n c ps:=h.below ((Below.refl _ _).alloc (Nat.le_refl _) o)
end
end Go.Proofs.YtgmflecelnefcaaGreat
