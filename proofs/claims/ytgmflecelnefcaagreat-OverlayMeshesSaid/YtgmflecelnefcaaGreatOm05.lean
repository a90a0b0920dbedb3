import Derived.Test.YtgmflecelnefcaaGreatOm04
import Derived.Test.YtgmflecelnefcaaGreatOm01
import Derived.Test.YtgmflecelnefcaaGreatOm02
import Derived.Test.YtgmflecelnefcaaGreatOm03
import Derived.StillTailTactics
import Derived.Lib.Builder
import Derived.Laws.AppendOwnNone
import Derived.SliceStrings
import Derived.SizedLaws
import Derived.Deep.DeepCutAuto
import Derived.RegionTactic
import Derived.StillTail
set_option maxRecDepth 100000
set_option maxHeartbeats 40000000
namespace Go.Proofs.YtgmflecelnefcaaGreat
open Go.Lib (hid)
open Go.RowKit
open Go.Lib (decDigits itoa atoiAll)
def mid (l:List UInt8) (f j:Nat):List UInt8:=(l.take j).drop f
theorem mid_more {l:List UInt8} {f j:Nat} (h:f≤j) (hj:j<l.length):mid l f (j+1)=mid l f j++[l.getD j 0]:=by
 unfold mid;rw [take_more hj,List.drop_append_of_le_length (by rw [List.length_take];omega)]
theorem mid_len {l:List UInt8} {f j:Nat} (hj:j≤l.length):(mid l f j).length=j - f:=by
 unfold mid;rw [List.length_drop,List.length_take];omega
theorem mid_first (l:List UInt8) (f:Nat):mid l f f=[]:=by
 unfold mid;rw [List.drop_eq_nil_of_le (by rw [List.length_take];omega)]
theorem mid_all (l:List UInt8) (f:Nat):mid l f l.length=l.drop f:=by unfold mid;rw [List.take_length]
theorem mid_mem {l:List UInt8} {f j:Nat} (h:f≤j) (hj:j<l.length):l.getD j 0∈l.drop f:=by
 have e:l.getD j 0=(l.drop f)[j - f]'(by rw [List.length_drop];omega):=by
  rw [List.getElem_drop];simp [List.getD,List.getElem?_eq_getElem hj,show f+(j - f)=j by omega]
 rw [e];exact List.getElem_mem _
theorem ten_pow {k:Nat} (h:k≤10):10 ^ k≤10000000000:=by
 have:10 ^ k≤10 ^ 10:=Nat.pow_le_pow_right (by decide) h
 simpa using this
theorem refNumRead_neg (l:List UInt8) (lo hi:Int) (w:World) (hs:l.length≤maxLen) (hd:l.head?=some 45):
 Calls Tryz.prog 203 #[.string (str l),.int .i64 lo,.int .i64 hi] w fun e w'=>e=.returned (.tuple #[.int .i64 (nV l lo hi),.bool (nB l lo hi)])∧Below w.heap.size w w':=by
 unfold maxLen at hs
 have ht:trimM l=l.drop 1:=by unfold trimM;rw [if_pos hd];cases l<;>rfl
 have hl0:0<l.length:=by
  cases l with
  |nil=>cases hd
  |cons c r=>simp
 have y0:=run_index_sb (str l) 0 0 rfl (by rw [str_size];exact hl0)
 have y1:(sb (str l) 0 == 45)=true:=by
  cases l with
  |nil=>cases hd
  |cons c r=>
   have:c=45:=by simpa using hd
   subst this;rfl
 have HH:=hid hd;clear hd;have HT:=hid ht;clear ht
 by_cases h1:l.length<1+1
 · have E:=hid (n_no (nF_none_len (l:=l) (lo:=lo) (hi:=hi) (.inl (by rw [HT.out,List.length_drop];omega))))
   go_enter Tryz.func203,Tryz.ntmps203
   go_wp2;go_ret2;exact ⟨by rw [E.out.1,E.out.2];rfl,Below.refl _ _⟩
 by_cases h2:10+1<l.length
 · have E:=hid (n_no (nF_none_len (l:=l) (lo:=lo) (hi:=hi) (.inr (by rw [HT.out,List.length_drop];omega))))
   go_enter Tryz.func203,Tryz.ntmps203
   go_wp2;go_ret2;exact ⟨by rw [E.out.1,E.out.2];rfl,Below.refl _ _⟩
 go_enter Tryz.func203,Tryz.ntmps203
 go_wp2
 go_loop [9,10] (fun v i=>∃j n:Nat,1≤j∧j≤l.length∧i=.int .i64 (j:Int)∧v=.int .i64 (n:Int)∧n=valD (mid l 1 j)∧(∀c∈mid l 1 j,isD c=true)) (fun _ i=>l.length - (intOf i).toNat)
 case atStart=>exact ⟨1,0,by omega,by omega,rfl,rfl,by rw [mid_first];rfl,fun c h=>by rw [mid_first] at h;cases h⟩
 case round=>
  obtain ⟨j,n,hj0,hj,rfl,rfl,hv,hD⟩:=hrel;have hlen:=mid_len (f:=1) hj
  have hn:n<10000000000:=by
   have g1:=valD_lt hD;rw [←hv,hlen] at g1;have g2:=ten_pow (k:=j - 1) (by omega);omega
  clear hlen;have HV:=hid hv;have HD:=hid hD;clear hv hD
  by_cases hlt:j<l.length
  · have x0:=run_index_sb (str l) j j rfl (by rw [str_size];exact hlt)
    have l0:=sb_lo (str l) j;have l1:=sb_hi (str l) j
    by_cases c1:sb (str l) j<48
    · have E:=hid (n_no (nF_none_digit (l:=l) (lo:=lo) (hi:=hi) (by rw [HT.out];exact mid_mem hj0 hlt) (notD_sb (str l) j (by omega))))
      go_wp2;go_ret2;exact ⟨by rw [E.out.1,E.out.2];rfl,Below.refl _ _⟩
    by_cases c2:57<sb (str l) j
    · have E:=hid (n_no (nF_none_digit (l:=l) (lo:=lo) (hi:=hi) (by rw [HT.out];exact mid_mem hj0 hlt) (notD_sb (str l) j (by omega))))
      go_wp2;go_ret2;exact ⟨by rw [E.out.1,E.out.2];rfl,Below.refl _ _⟩
    have hdg:=(isD_sb (str l) j).2 ⟨by omega,by omega⟩;have N:=hid (show ((n * 10+((l.getD j 0).toNat - 48):Nat):Int)=(n:Int) * 10+sb (str l) j - 48 by rw [sb_str] at c1 ⊢;omega);have V:=hid (show n * 10+((l.getD j 0).toNat - 48)=valD (mid l 1 (j+1)) by rw [mid_more hj0 hlt,valD_snoc,←HV.out])
    have D:=hid (show ∀c∈mid l 1 (j+1),isD c=true by
     rw [mid_more hj0 hlt];intro c hc
     rcases List.mem_append.1 hc with hc|hc
     · exact HD.out c hc
     · rw [List.mem_singleton.1 hc];exact hdg)
    clear hdg;go_wp2
    go_round
    case rel=>exact ⟨j+1,n * 10+((l.getD j 0).toNat - 48),by omega,hlt,by go_num,by rw [N.out],V.out,D.out⟩
    case measure=>simp [intOf];omega
  · have hjl:j=l.length:=by omega
    have EN:=hid (show n=valD (trimM l) by rw [HV.out,hjl,mid_all,HT.out]);have F:=hid (nF_ref (l:=l) (lo:=lo) (hi:=hi) (by rw [HT.out,List.length_drop];omega) (by rw [HT.out,List.length_drop];omega) (fun c hc=>HD.out c (by rw [hjl,mid_all,←HT.out];exact hc)));have R:=hid (show rN l= -(n:Int) by unfold rN;rw [if_pos HH.out,←EN.out]);clear hjl;have hil:=itoa_len (-(n:Int)) (by omega) (by omega)
    by_cases c1: -(n:Int)<lo
    · have E:=hid (n_no (show nF l lo hi=none by rw [F.out,R.out,if_neg (by omega)]))
      go_wp2;go_ret2;exact ⟨by rw [E.out.1,E.out.2];rfl,Below.refl _ _⟩
    by_cases c2:hi < -(n:Int)
    · have E:=hid (n_no (show nF l lo hi=none by rw [F.out,R.out,if_neg (by omega)]))
      go_wp2;go_ret2;exact ⟨by rw [E.out.1,E.out.2];rfl,Below.refl _ _⟩
    by_cases c3:itoa (-(n:Int))=l
    · have E:=hid (n_yes (show nF l lo hi=some (-(n:Int)) by rw [F.out,R.out,if_pos ⟨by omega,by omega,c3⟩]))
      have t1:(itoa (-(n:Int)) == l)=true:=by simpa using c3
      have t2:(itoa (-(n:Int)) != l)=false:=by simpa using c3
      clear c3;go_wp2_with (go_at_call 192;refine (refNumText_any (-(n:Int)) (by omega) (by omega) _).mono ?_;rintro e w1 ⟨rfl,hb1⟩);go_ret2;exact ⟨by rw [E.out.1,E.out.2];rfl,hb1⟩
    · have E:=hid (n_no (show nF l lo hi=none by rw [F.out,R.out,if_neg (fun h=>c3 h.2.2)]))
      have t1:(itoa (-(n:Int)) == l)=false:=by simpa using c3
      have t2:(itoa (-(n:Int)) != l)=true:=by simpa using c3
      clear c3;go_wp2_with (go_at_call 192;refine (refNumText_any (-(n:Int)) (by omega) (by omega) _).mono ?_;rintro e w1 ⟨rfl,hb1⟩);go_ret2;exact ⟨by rw [E.out.1,E.out.2];rfl,hb1⟩
open Go.Lib (decDigits)
theorem risIn_no {xs:List Int} {lo hi:Int} (h:risB xs=false):risIn xs lo hi=false:=by simp [risIn,h]
theorem risIn_out {xs:List Int} {lo hi:Int} {k:Nat} (hk:k<xs.length) (h:xs.getD k 0<lo∨hi<xs.getD k 0):risIn xs lo hi=false:=by
 have:inB xs lo hi=false:=by
  cases hx:inB xs lo hi with
  |false=>rfl
  |true=>have:=(inB_iff xs lo hi).1 hx _ (getD_mem hk);omega
 simp [risIn,this]
theorem risIn_yes {xs:List Int} {lo hi:Int} (h1:1≤xs.length) (h2:xs.length≤16) (hup:Up xs xs.length) (h:∀j,j<xs.length→lo≤xs.getD j 0∧xs.getD j 0≤hi):risIn xs lo hi=true:=by
 have g1:risB xs=true:=(risB_iff xs).2 ⟨h1,h2,hup⟩
 have g2:inB xs lo hi=true:=(inB_iff xs lo hi).2 fun x hx=>by
  obtain ⟨i,hi',rfl⟩:=mem_getD hx;exact h i hi'
 simp [risIn,g1,g2]
theorem refRis_any (A:Option Addr) (n c:Nat) (xs:List Int) (lo hi:Int) (w:World) (h:ISl w .i64 A n c xs):
 Calls Tryz.prog 151 #[.slice A n c,.int .i64 lo,.int .i64 hi] w fun e w'=>e=.returned (.bool (risIn xs lo hi))∧Drew w w':=by
 have hle:=h.le;have hcap:=h.cap;have H:=hid h;clear h
 by_cases h1:n<1
 · have E:=hid (risIn_no (lo:=lo) (hi:=hi) (risB_no xs (.inl (by rw [H.out.len];exact h1))))
   go_enter Tryz.func151,Tryz.ntmps151
   go_wp2;go_ret;exact ⟨by rw [E.out];rfl,Drew.refl _⟩
 by_cases h2:16<n
 · have E:=hid (risIn_no (lo:=lo) (hi:=hi) (risB_no xs (.inr (by rw [H.out.len];exact h2))))
   go_enter Tryz.func151,Tryz.ntmps151
   go_wp2;go_ret;exact ⟨by rw [E.out];rfl,Drew.refl _⟩
 obtain ⟨b,off,rfl,hb,hc⟩:=H.out.2.2.2 (by omega);have HC:=hid hc;clear hc
 go_enter Tryz.func151,Tryz.ntmps151
 go_wp2
 go_loopw [7] (fun i wr=>∃k:Nat,k≤n∧i=.int .i64 (k:Int)∧Up xs k∧(∀j,j<k→lo≤xs.getD j 0∧xs.getD j 0≤hi)∧Drew w wr) (fun i _=>n - (intOf i).toNat)
 case atStart=>exact ⟨0,by omega,rfl,Up.zero _,fun j hj=>by omega,Drew.refl _⟩
 case round=>
  obtain ⟨k,hk,rfl,hup,hin,m,rfl⟩:=hrel;have U:=hid hup;have IN:=hid hin;clear hup hin
  by_cases hlt:k<n
  · have c0:w.cell? ⟨b,off+k,none⟩=some (.int .i64 (xs.getD k 0)):=HC.out k hlt
    generalize hx:xs.getD k 0=x at c0;have HX:=hid hx;clear hx
    by_cases d1:x<lo
    · have E:=hid (risIn_out (xs:=xs) (lo:=lo) (hi:=hi) (k:=k) (by rw [H.out.len];exact hlt) (.inl (by rw [HX.out];exact d1)))
      have t1:decide (x<lo)=true:=by simpa using d1
      go_wp2
      go_quiet (fail)
      go_wp2;go_ret;exact ⟨by rw [E.out];rfl,⟨m+nq,by rw [drewN_add]⟩⟩
    have t1:decide (x<lo)=false:=by simpa using d1
    by_cases d2:hi<x
    · have E:=hid (risIn_out (xs:=xs) (lo:=lo) (hi:=hi) (k:=k) (by rw [H.out.len];exact hlt) (.inr (by rw [HX.out];exact d2)))
      have t2:decide (hi<x)=true:=by simpa using d2
      go_wp2
      go_quiet (fail)
      go_wp2;go_ret;exact ⟨by rw [E.out];rfl,⟨m+nq,by rw [drewN_add]⟩⟩
    have t2:decide (hi<x)=false:=by simpa using d2
    by_cases k0:0<k
    · have c1:w.cell? ⟨b,off+(k - 1),none⟩=some (.int .i64 (xs.getD (k - 1) 0)):=HC.out (k - 1) (by omega)
      generalize hy:xs.getD (k - 1) 0=y at c1;have HY:=hid hy;clear hy;have k1:1≤k:=k0;have e1:IntKind.i64.wrap ((k:Int) - 1)=(k:Int) - 1:=IntWalk.i64_in _ (by omega)
      have e2:(0:Int)≤(k:Int) - 1:=by omega
      have e3:((k:Int) - 1).toNat=k - 1:=by omega
      have e4:(k:Int) - 1<(n:Int):=by omega
      by_cases d3:x≤y
      · have E:=hid (risIn_no (lo:=lo) (hi:=hi) (risB_down (xs:=xs) (k:=k) k0 (by rw [H.out.len];exact hlt) (by rw [HX.out,HY.out];exact d3)))
        have t3:decide (x≤y)=true:=by simpa using d3
        go_wp2
        go_quiet (fail)
        go_wp2;go_ret;exact ⟨by rw [E.out];rfl,⟨m+nq,by rw [drewN_add]⟩⟩
      · have E:=hid (U.out.next (by rw [HX.out,HY.out];omega))
        have E2:=hid (show ∀j,j<k+1→lo≤xs.getD j 0∧xs.getD j 0≤hi from fun j hj=>by
         by_cases ej:j=k
         · subst ej;rw [HX.out];exact ⟨by omega,by omega⟩
         · exact IN.out j (by omega))
        have t3:decide (x≤y)=false:=by simpa using d3
        go_wp2
        go_quiet (fail)
        clear e1 e2 e3 e4;go_wp2
        go_roundw
        case rel=>exact ⟨k+1,by omega,by go_num,E.out,E2.out,⟨m+nq,rfl⟩⟩
        case measure=>simp [intOf];omega
    · have E:=hid (show Up xs (k+1) from (Up.one xs).less (by omega))
      have E2:=hid (show ∀j,j<k+1→lo≤xs.getD j 0∧xs.getD j 0≤hi from fun j hj=>by
       obtain rfl:j=k:=by omega
       rw [HX.out];exact ⟨by omega,by omega⟩)
      go_wp2
      go_quiet (fail)
      go_wp2
      go_roundw
      case rel=>exact ⟨k+1,by omega,by go_num,E.out,E2.out,⟨m+nq,rfl⟩⟩
      case measure=>simp [intOf];omega
  · obtain rfl:k=n:=by omega
    have E:=hid (show risIn xs lo hi=true from risIn_yes (by rw [H.out.len];omega) (by rw [H.out.len];omega) (by rw [H.out.len];exact U.out) (by rw [H.out.len];exact IN.out));go_wp2;go_ret;exact ⟨by rw [E.out];rfl,⟨m,rfl⟩⟩
open Go.Lib (decDigits)
theorem HS_two (A b x:Nat) (hb:b≤32):HS (A:Int) (b:Int) (x:Int)=(decide (fsN A b≤x) && decide (x≤lsN A b)):=by
 have hr:RT (b:Int)=true:=by rw [RT_iff];omega
 unfold HS;rw [hr,Bool.true_and,Bool.eq_iff_iff];simp only [Int.toNat_natCast,decide_eq_true_eq,Bool.and_eq_true];exact has_iff A b x
theorem FS_no {A B:Int} (h:RT B=false):FS A B=0:=by simp [FS,h]
theorem LS_no {A B:Int} (h:RT B=false):LS A B=0:=by simp [LS,h]
theorem FS_yes (a b:Nat) (hb:b≤32):FS (a:Int) (b:Int)=(fsN a b:Nat):=by
 have hr:RT (b:Int)=true:=by rw [RT_iff];omega
 simp [FS,hr]
theorem LS_yes (a b:Nat) (hb:b≤32):LS (a:Int) (b:Int)=(lsN a b:Nat):=by
 have hr:RT (b:Int)=true:=by rw [RT_iff];omega
 simp [LS,hr]
theorem first_all (A B:Int) (h0:0≤A) (h1:A<4294967296) (w:World):Calls Tryz.prog 186 #[.agg #[.int .u32 A,.int .i64 B]] w fun e w'=>e=.returned (.int .u32 (FS A B))∧Below w.heap.size w w':=by
 cases hr:RT B with
 |false=>rw [FS_no hr];exact first_no A B hr w
 |true=>
  obtain ⟨b,rfl,hb⟩:=RT_nat hr;obtain ⟨a,rfl⟩:=Int.eq_ofNat_of_zero_le h0;rw [FS_yes a b hb];exact first_yes a b (by omega) hb w
theorem last_all (A B:Int) (h0:0≤A) (h1:A<4294967296) (w:World):Calls Tryz.prog 187 #[.agg #[.int .u32 A,.int .i64 B]] w fun e w'=>e=.returned (.int .u32 (LS A B))∧Below w.heap.size w w':=by
 cases hr:RT B with
 |false=>rw [LS_no hr];exact last_no A B hr w
 |true=>
  obtain ⟨b,rfl,hb⟩:=RT_nat hr;obtain ⟨a,rfl⟩:=Int.eq_ofNat_of_zero_le h0;rw [LS_yes a b hb];exact last_yes a b (by omega) hb w
theorem isl_rsl {k:IntKind} {w:World} {F:Nat→Prop} {A:Option Addr} {n c:Nat} {xs:List Int} (h:RSl (Rdr.int k) w F A n c xs):ISl w k A n c xs:=
 ⟨h.1,h.2.1,h.2.2.1,fun hn=>by
   obtain ⟨b,off,e,_,hl,hc⟩:=h.2.2.2.2 hn;refine ⟨b,off,e,hl,fun j hj=>?_⟩
   have hlt:j<xs.length:=by rw [h.1];exact hj
   obtain ⟨vs,rfl,h2⟩:=hc j xs[j] (List.getElem?_eq_getElem hlt);have h3:=h2 0 (.int k xs[j]) rfl;rw [show off+j * (Rdr.int k).n+0=off+j by show off+j * 1+0=off+j;omega] at h3;rw [h3]
   simp [List.getD,hlt]⟩
structure NBox (w:World) (q:Nat) (S:NSl3):Prop where
 c0:w.cell? ⟨q,0,none⟩=some (.slice S.dv.A S.dv.n S.dv.c)
 c1:w.cell? ⟨q,1,none⟩=some (.slice S.pt.A S.pt.n S.pt.c)
 c2:w.cell? ⟨q,2,none⟩=some (.slice S.lk.A S.lk.n S.lk.c)
 c3:w.cell? ⟨q,3,none⟩=some (.slice S.dm.A S.dm.n S.dm.c)
 c4:w.cell? ⟨q,4,none⟩=some (.slice S.st.A S.st.n S.st.c)
 c5:w.cell? ⟨q,5,none⟩=some (.slice S.fl.A S.fl.n S.fl.c)
 c6:w.cell? ⟨q,6,none⟩=some (.slice S.vr.A S.vr.n S.vr.c)
 c7:w.cell? ⟨q,7,none⟩=some (.slice S.ir.A S.ir.n S.ir.c)
 lt:q<w.heap.size
theorem NBox.new (w:World) (S:NSl3) (T:TypeId):NBox (w.alloc (.cells (nA S) T)) w.heap.size S:=by
 constructor<;>simp
theorem NBox.below {w w':World} {q:Nat} {S:NSl3} (h:NBox w q S) (hb:Below w.heap.size w w'):NBox w' q S:=
 ⟨(hb.cell (p:=⟨q,0,none⟩) h.lt).trans h.c0,(hb.cell (p:=⟨q,1,none⟩) h.lt).trans h.c1,(hb.cell (p:=⟨q,2,none⟩) h.lt).trans h.c2,(hb.cell (p:=⟨q,3,none⟩) h.lt).trans h.c3,(hb.cell (p:=⟨q,4,none⟩) h.lt).trans h.c4,(hb.cell (p:=⟨q,5,none⟩) h.lt).trans h.c5,(hb.cell (p:=⟨q,6,none⟩) h.lt).trans h.c6,(hb.cell (p:=⟨q,7,none⟩) h.lt).trans h.c7,Nat.lt_of_lt_of_le h.lt hb.size⟩
def plB (i m:Int):Bool:=decide (0≤i) && decide (i<m)
theorem plB_iff (i m:Int):plB i m=true↔0≤i∧i<m:=by unfold plB;simp
theorem rplace_any (i m:Int) (w:World):Calls Tryz.prog 108 #[.int .i64 i,.int .i64 m] w fun e w'=>e=.returned (.bool (plB i m))∧w=w':=by
 unfold plB
 by_cases h0:0≤i
 · by_cases h1:i<m
   · have e:(decide (0≤i) && decide (i<m))=true:=by simp;omega
     rw [e]
     go_enter Tryz.func108,Tryz.ntmps108
     go_wp2;go_ret;exact ⟨rfl,rfl⟩
   · have e:(decide (0≤i) && decide (i<m))=false:=by simp;omega
     rw [e]
     go_enter Tryz.func108,Tryz.ntmps108
     go_wp2;go_ret;exact ⟨rfl,rfl⟩
 · have e:(decide (0≤i) && decide (i<m))=false:=by simp;omega
   rw [e]
   go_enter Tryz.func108,Tryz.ntmps108
   go_wp2;go_ret;exact ⟨rfl,rfl⟩
def memB (xs:List Int) (x:Int):Bool:=decide (x∈xs)
theorem memB_take {xs:List Int} {k:Nat} {x:Int} (h:k<xs.length) (ha:x∉xs.take k) (hx:xs.getD k 0≠x):x∉xs.take (k+1):=by
 rw [List.take_succ_eq_append_getElem h];intro hm
 rcases List.mem_append.1 hm with hm|hm
 · exact ha hm
 · have:=List.mem_singleton.1 hm
   exact hx (by rw [this];simp [List.getD,h])
theorem rin_any (A:Option Addr) (n c:Nat) (xs:List Int) (x:Int) (w:World) (h:ISl w .i64 A n c xs):Calls Tryz.prog 110 #[.slice A n c,.int .i64 x] w fun e w'=>e=.returned (.bool (memB xs x))∧w=w':=by
 have hle:=h.le;have hcap:=h.cap;have HL:=hid h.len;have H:=hid h;have E1:=hid (show x∈xs→memB xs x=true from fun hx=>decide_eq_true hx);have E0:=hid (show x∉xs→memB xs x=false from fun hx=>decide_eq_false hx);generalize memB xs x=V at *;clear h
 go_enter Tryz.func110,Tryz.ntmps110
 go_wp2
 go_loopw [5] (fun i wr=>∃k:Nat,i=.int .i64 k∧k≤n∧wr=w∧x∉xs.take k) (fun i _=>match i with| .int _ y=>(n - y).toNat|_=>0)
 case atStart=>exact ⟨0,rfl,by omega,rfl,by simp⟩
 case round=>
  obtain ⟨k,rfl,hk,rfl,hx⟩:=hrel;have HX:=hid hx;clear hx
  by_cases hlt:k<n
  · obtain ⟨b,off,rfl,hb,hc⟩:=H.out.2.2.2 (by omega)
    have c0:=hc k hlt
    have hk2:k<xs.length:=by rw [HL.out];exact hlt
    have NX:=hid (fun hy=>memB_take hk2 HX.out hy);have YX:=hid (show xs.getD k 0=x→x∈xs from fun e=>by rw [←e];simp [List.getD,hk2]);generalize xs.getD k 0=y at *
    have lt2:(k:Int)<(n:Int):=by omega
    clear hc hk2
    by_cases hy:y=x
    · have ev:=E1.out (YX.out hy)
      have ey:(y == x)=true:=by simpa using hy
      subst ev;go_wp2;go_ret;exact ⟨rfl,rfl⟩
    · have ey:(y == x)=false:=by simpa using hy
      have N2:=hid (NX.out hy);go_wp2
      go_roundw
      case rel=>exact ⟨k+1,by simp,by omega,(by first|rfl|trivial),N2.out⟩
      case measure=>simp only [];omega
  · have ev:=E0.out (by have:=HX.out;rwa [List.take_of_length_le (by rw [HL.out];omega)] at this)
    have lt2:¬(k:Int)<(n:Int):=by omega
    subst ev;go_wp2;go_ret;exact ⟨rfl,rfl⟩
def rsB (xs:List Int) (hi:Int):Bool:=decide (xs=[]) || risIn xs 1 hi
theorem rrising_any (A:Option Addr) (n c:Nat) (xs:List Int) (hi:Int) (w:World) (h:ISl w .i64 A n c xs):Calls Tryz.prog 111 #[.slice A n c,.int .i64 hi] w fun e w'=>e=.returned (.bool (rsB xs hi))∧Drew w w':=by
 have hl:=h.len
 by_cases hn:n=0
 · subst hn
   obtain rfl:xs=[]:=List.eq_nil_of_length_eq_zero hl;rw [show rsB [] hi=true by unfold rsB;simp];clear h hl
   go_enter Tryz.func111,Tryz.ntmps111
   go_wp2;go_ret;exact ⟨rfl,Drew.refl _⟩
 · have ne:((n:Int) == 0)=false:=by simp;omega
   rw [show rsB xs hi=risIn xs 1 hi by unfold rsB;rw [decide_eq_false (fun e=>by rw [e] at hl;exact hn hl.symm)];rfl];have R:=hid (refRis_any A n c xs 1 hi w h);clear h hl hn
   go_enter Tryz.func111,Tryz.ntmps111
   go_wp2_with (go_at_call 151;(with_reducible refine R.out.mono ?_);rintro e w1 ⟨rfl,hd⟩);go_ret;exact ⟨rfl,hd⟩
def mbrB (p:PortV) (v:Int):Bool:=decide (v≠0) && (decide (p.native=v) || memB p.tagged v)
theorem rmember_any (p:PortV) (s:Sl3) (v:Int) (w:World) (F:Nat→Prop) (hF:∀b,F b→b<w.heap.size) (h:RSl (Rdr.int .i64) w F s.A s.n s.c p.tagged):Calls Tryz.prog 112 #[.agg (portC p s).toArray,.int .i64 v] w fun e w'=>e=.returned (.bool (mbrB p v))∧Below w.heap.size w w':=by
 have IN:=hid (fun (w':World) (hb:Below w.heap.size w w')=>rin_any s.A s.n s.c p.tagged v w' (isl_rsl (h.below hF hb)));unfold portC mbrB
 by_cases h0:v=0
 · have e:(decide (v≠0) && (decide (p.native=v) || memB p.tagged v))=false:=by rw [decide_eq_false (by simpa using h0)];rfl
   rw [e]
   have ne:(v != 0)=false:=by simpa using h0
   clear h h0 e
   go_enter Tryz.func112,Tryz.ntmps112
   go_wp2;go_ret;exact ⟨rfl,(Below.refl _ _).alloc (Nat.le_refl _) _⟩
 · have ne:(v != 0)=true:=by simpa using h0
   by_cases h1:p.native=v
   · have e:(decide (v≠0) && (decide (p.native=v) || memB p.tagged v))=true:=by rw [decide_eq_true h0,decide_eq_true h1];rfl
     rw [e]
     have ne2:(p.native == v)=true:=by simpa using h1
     clear h h0 e h1
     go_enter Tryz.func112,Tryz.ntmps112
     go_wp2;go_ret;exact ⟨rfl,(Below.refl _ _).alloc (Nat.le_refl _) _⟩
   · have e:(decide (v≠0) && (decide (p.native=v) || memB p.tagged v))=memB p.tagged v:=by rw [decide_eq_true h0,decide_eq_false h1];rfl
     rw [e]
     have ne2:(p.native == v)=false:=by simpa using h1
     generalize memB p.tagged v=V at *;clear h h0 e h1
     go_enter Tryz.func112,Tryz.ntmps112
     go_wp2_with (go_at_call 110;(with_reducible refine (IN.out _ ((Below.refl _ _).alloc (Nat.le_refl _) _)).mono ?_);rintro e w1 ⟨rfl,rfl⟩);go_ret;exact ⟨rfl,(Below.refl _ _).alloc (Nat.le_refl _) _⟩
def atK:List DomV→Int→Int→Nat→Int
 | [],_,_,_=> -1
 |d :: r,dev,v,k=>if d.dev=dev∧d.vlan=v then (k:Int) else atK r dev v (k+1)
def atF (N:NV) (dev v:Int):Int:=atK N.domains dev v 0
theorem atK_at {xs:List DomV} {k:Nat} (h:k<xs.length) (dev v:Int):atK (xs.drop k) dev v k=if (xs.getD k DomV.zero).dev=dev∧(xs.getD k DomV.zero).vlan=v then (k:Int) else atK (xs.drop (k+1)) dev v (k+1):=by
 rw [List.drop_eq_getElem_cons h,atK];simp [List.getD,h]
theorem rat_any (N:NV) (S:NSl3) (dev v:Int) (w:World) (h:NRead w (allB w) N S):Calls Tryz.prog 37 #[netV S,.int .i64 dev,.int .i64 v] w fun e w'=>e=.returned (.int .i64 (atF N dev v))∧Below w.heap.size w w':=by
 have H:=hid h.dm;have hle:=h.dm.le;have hcap:=h.dm.cap;have HL:=hid h.dm.len;have E:=hid (show atF N dev v=atK (N.domains.drop 0) dev v 0 from rfl);generalize atF N dev v=V at *;have NB:=hid (NBox.new w S 31);clear h;unfold netV
 go_enter Tryz.func37,Tryz.ntmps37
 go_wp2;obtain ⟨w1,hw1⟩:∃w1,w.alloc (.cells (nA S) 31)=w1:=⟨_,rfl⟩;have B1:=hid (show Below w.heap.size w w1 by rw [←hw1];exact (Below.refl _ _).alloc (Nat.le_refl _) _);rw [hw1] at NB ⊢;clear hw1;have c3:=NB.out.c3
 go_loopw [7] (fun i wr=>∃k:Nat,i=.int .i64 k∧k≤S.dm.n∧wr=w1∧V=atK (N.domains.drop k) dev v k) (fun i _=>match i with| .int _ y=>(S.dm.n - y).toNat|_=>0)
 case atStart=>exact ⟨0,rfl,by omega,rfl,E.out⟩
 case round=>
  obtain ⟨k,rfl,hk,hwr,hv⟩:=hrel;subst hwr;have HV:=hid hv;clear hv
  by_cases hlt:k<S.dm.n
  · obtain ⟨b0,o0,vs,e0,_,hb0,⟨s,rfl,_⟩,r0⟩:=rsl_at H.out k hlt DomV.zero
    have hk2:k<N.domains.length:=by rw [HL.out];exact hlt
    have AT:=hid (atK_at hk2 dev v);generalize N.domains.getD k DomV.zero=D at *;have R1:=rangeAt_keep r0 (B1.out.block b0 hb0);have d0:=R1 0 _ rfl;have d1:=R1 1 _ rfl;simp only [Nat.add_zero] at d0;rw [show o0+k * domR.n=o0+k * 6 from rfl] at d0 d1
    have lt2:(k:Int)<(S.dm.n:Int):=by omega
    rw [e0] at c3 ⊢;clear r0 R1 hk2
    by_cases hd:D.dev=dev
    · have x1:(D.dev == dev)=true:=by simpa using hd
      by_cases hv2:D.vlan=v
      · have x2:(D.vlan == v)=true:=by simpa using hv2
        have EV:=hid (show V=(k:Int) by rw [HV.out,AT.out,if_pos ⟨hd,hv2⟩]);clear hd hv2;go_wp2;go_ret;exact ⟨by rw [EV.out];rfl,B1.out⟩
      · have x2:(D.vlan == v)=false:=by simpa using hv2
        have EV:=hid (show V=atK (N.domains.drop (k+1)) dev v (k+1) by rw [HV.out,AT.out,if_neg (by intro g;exact hv2 g.2)]);go_wp2
        go_roundw
        case rel=>exact ⟨k+1,by simp,by omega,(by first|rfl|trivial),EV.out⟩
        case measure=>simp only [];omega
    · have x1:(D.dev == dev)=false:=by simpa using hd
      have EV:=hid (show V=atK (N.domains.drop (k+1)) dev v (k+1) by rw [HV.out,AT.out,if_neg (by intro g;exact hd g.1)]);go_wp2
      go_roundw
      case rel=>exact ⟨k+1,by simp,by omega,(by first|rfl|trivial),EV.out⟩
      case measure=>simp only [];omega
  · have lt2:¬(k:Int)<(S.dm.n:Int):=by omega
    have EV:=hid (show V= -1 by rw [HV.out,List.drop_of_length_le (by rw [HL.out];omega)];rfl);go_wp2;go_ret;exact ⟨by rw [EV.out];rfl,B1.out⟩
def peerB (N:NV) (i:Nat) (k:Int):Bool:=
 plB k (N.domains.length:Int) && (!decide (k=(i:Int)) && (decide ((N.domains.getD i DomV.zero).dev≠(N.domains.getD k.toNat DomV.zero).dev) && (decide ((N.domains.getD i DomV.zero).vni=(N.domains.getD k.toNat DomV.zero).vni) && (decide ((N.domains.getD i DomV.zero).vni≠0) &&
  (decide ((N.devices.getD (N.domains.getD i DomV.zero).dev.toNat DevV.zero).vtep≠0) && (decide ((N.devices.getD (N.domains.getD k.toNat DomV.zero).dev.toNat DevV.zero).vtep≠0) && memB (N.domains.getD k.toNat DomV.zero).peers (i:Int)))))))
structure DBox (w:World) (q:Nat) (D:DomV) (s:Sl3):Prop where
 c0:w.cell? ⟨q,0,none⟩=some (.int .i64 D.dev)
 c1:w.cell? ⟨q,1,none⟩=some (.int .i64 D.vlan)
 c2:w.cell? ⟨q,2,none⟩=some (.int .i64 D.vni)
 c3:w.cell? ⟨q,3,none⟩=some (.int .i64 D.irb)
 c4:w.cell? ⟨q,4,none⟩=some (.int .i64 D.row)
 c5:w.cell? ⟨q,5,none⟩=some (.slice s.A s.n s.c)
 lt:q<w.heap.size
theorem peerB_no1 {N:NV} {i:Nat} {k:Int} (h:plB k (N.domains.length:Int)=false):peerB N i k=false:=by unfold peerB;rw [h];rfl
theorem peerB_no2 {N:NV} {i:Nat} {k:Int} (h:k=(i:Int)):peerB N i k=false:=by unfold peerB;rw [decide_eq_true h,Bool.not_true,Bool.false_and,Bool.and_false]
theorem peerB_at {N:NV} {i x:Nat} (h:plB (x:Int) (N.domains.length:Int)=true) (hn:¬(x:Int)=(i:Int)):peerB N i (x:Int)=
 (decide ((N.domains.getD i DomV.zero).dev≠(N.domains.getD x DomV.zero).dev) && (decide ((N.domains.getD i DomV.zero).vni=(N.domains.getD x DomV.zero).vni) && (decide ((N.domains.getD i DomV.zero).vni≠0) &&
 (decide ((N.devices.getD (N.domains.getD i DomV.zero).dev.toNat DevV.zero).vtep≠0) && (decide ((N.devices.getD (N.domains.getD x DomV.zero).dev.toNat DevV.zero).vtep≠0) && memB (N.domains.getD x DomV.zero).peers (i:Int)))))):=by
 unfold peerB;rw [h,decide_eq_false hn]
 rfl
theorem peer_any (N:NV) (S:NSl3) (i:Nat) (k:Int) (w:World) (h:NRead w (allB w) N S) (hi:i<N.domains.length) (hd:∀j,j<N.domains.length→plB (N.domains.getD j DomV.zero).dev (N.devices.length:Int)=true):
 Calls Tryz.prog 109 #[netV S,.int .i64 (i:Int),.int .i64 k] w fun e w'=>e=.returned (.bool (peerB N i k))∧Below w.heap.size w w':=by
 have HD:=hid h.dm;have HV:=hid h.dv;have hle:=h.dm.le;have hcap:=h.dm.cap;have hle2:=h.dv.le;have hcap2:=h.dv.cap;have dml:=h.dm.len;have dvl:=h.dv.len;rw [dml] at hi hd;rw [dvl] at hd;have N1:=hid (@peerB_no1 N i k);have N2:=hid (@peerB_no2 N i k);have N3:=hid (fun x=>@peerB_at N i x);rw [dml] at N1 N3;have NB:=hid (NBox.new w S 31);have HDD:=hid hd;obtain ⟨V,hV⟩:∃V,peerB N i k=V:=⟨_,rfl⟩
 rw [hV] at N1 N2 ⊢;clear h hd dml dvl
 have PK:=fun w'=>rplace_any k (S.dm.n:Int) w'
 unfold netV
 go_enter Tryz.func109,Tryz.ntmps109
 go_upto_region 1 with fail
 obtain ⟨w1,hw1⟩:∃w1,w.alloc (.cells (nA S) 31)=w1:=⟨_,rfl⟩;have B1:=hid (show Below w.heap.size w w1 by rw [←hw1];exact (Below.refl _ _).alloc (Nat.le_refl _) _);rw [hw1] at NB ⊢;clear hw1;have n0:=NB.out.c0;have n3:=NB.out.c3;have nl:=NB.out.lt
 cases hp:plB k (S.dm.n:Int) with
 |false=>
  rw [hp] at PK;have PK:=hid PK;have E:=hid (N1.out hp);clear hp;go_wp2_with (go_at_call 108;(with_reducible refine (PK.out _).mono ?_);rintro e wp ⟨rfl,hwp⟩;subst hwp);go_ret;exact ⟨by rw [E.out];rfl,B1.out⟩
 |true=>
 rw [hp] at PK;obtain ⟨a1,a2⟩:=(plB_iff _ _).1 hp;obtain ⟨x,hx⟩:=Int.eq_ofNat_of_zero_le a1
 have hxl:x<S.dm.n:=by omega
 subst hx;have E1:=hid (fun hn=>N3.out x hp hn);clear hp a1 a2 N3 N1;have PK:=hid PK;have E1:=hid (fun hn=>hV.symm.trans (E1.out hn));clear hV
 by_cases hki:x=i
 · have z:((x:Int) == (i:Int))=true:=by simp;omega
   have EV:=hid (N2.out (by omega));clear hki;go_wp2_with (go_at_call 108;(with_reducible refine (PK.out _).mono ?_);rintro e wp ⟨rfl,hwp⟩;subst hwp);go_ret;exact ⟨by rw [EV.out];rfl,B1.out⟩
 have z:((x:Int) == (i:Int))=false:=by simp;omega
 have E2:=E1.out (by omega);clear N2 E1;have HDI:=HDD.out i hi;have HDX:=HDD.out x hxl;obtain ⟨bp,op,vp,ep,_,hbp,⟨s,rfl,rs⟩,rp⟩:=rsl_at HD.out i hi DomV.zero;obtain ⟨bq,oq,vq,eq_,_,_,⟨t,rfl,rt⟩,rq⟩:=rsl_at HD.out x hxl DomV.zero;rw [ep] at eq_
 injection eq_ with eq_
 injection eq_ with h1 h2
 subst h1 h2;have RP:=rangeAt_keep rp (B1.out.block bp hbp);have RQ:=rangeAt_keep rq (B1.out.block bp hbp);generalize N.domains.getD i DomV.zero=D at *;generalize N.domains.getD x DomV.zero=E at *;obtain ⟨c1,c2⟩:=(plB_iff _ _).1 HDI;obtain ⟨c3,c4⟩:=(plB_iff _ _).1 HDX;obtain ⟨y,hy⟩:=Int.eq_ofNat_of_zero_le c1;obtain ⟨z2,hz⟩:=Int.eq_ofNat_of_zero_le c3
 have hyl:y<S.dv.n:=by omega
 have hzl:z2<S.dv.n:=by omega
 obtain ⟨bd,od,vd,ed,_,hbd,hvd,rd⟩:=rsl_at HV.out y hyl DevV.zero;obtain ⟨be,oe,ve,ee,_,_,hve,re⟩:=rsl_at HV.out z2 hzl DevV.zero;rw [ed] at ee
 injection ee with ee
 injection ee with h1 h2
 subst h1 h2;have hvd:vd=devC (N.devices.getD y DevV.zero):=hvd;have hve:ve=devC (N.devices.getD z2 DevV.zero):=hve;subst hvd hve;have RD:=rangeAt_keep rd (B1.out.block bd hbd);have RE:=rangeAt_keep re (B1.out.block bd hbd);rw [show D.dev.toNat=y by rw [hy];rfl,show E.dev.toNat=z2 by rw [hz];rfl] at E2;generalize N.devices.getD y DevV.zero=X at *;generalize N.devices.getD z2 DevV.zero=Y at *;have E3:=hid E2
 have v4:=RD 4 _ rfl;have u4:=RE 4 _ rfl;rw [show od+y * devR.n=od+y * 5 from rfl] at v4;rw [show od+z2 * devR.n=od+z2 * 5 from rfl] at u4;have a0:=RP 0 _ rfl;have b0:=RQ 0 _ rfl;have a1:=RP 1 _ rfl;have b1:=RQ 1 _ rfl;have a2:=RP 2 _ rfl;have b2:=RQ 2 _ rfl;have a3:=RP 3 _ rfl;have b3:=RQ 3 _ rfl;have a4:=RP 4 _ rfl;have b4:=RQ 4 _ rfl;have a5:=RP 5 _ rfl;have b5:=RQ 5 _ rfl;simp only [Nat.add_zero] at a0 b0
 rw [show op+i * domR.n=op+i * 6 from rfl] at a0 a1 a2 a3 a4 a5;rw [show op+x * domR.n=op+x * 6 from rfl] at b0 b1 b2 b3 b4 b5
 have li:(i:Int)<(S.dm.n:Int):=by omega
 have lx:(x:Int)<(S.dm.n:Int):=by omega
 have ly:(y:Int)<(S.dv.n:Int):=by omega
 have lz:(z2:Int)<(S.dv.n:Int):=by omega
 have LD:=hid hbd;have IN:=hid (fun (w':World) (hb:Below w.heap.size w w')=>rin_any t.A t.n t.c E.peers (i:Int) w' (isl_rsl (rt.below (fun _ h=>h) hb)));have hbp1:bp<w1.heap.size:=Nat.lt_of_lt_of_le hbp B1.out.size;have hbd1:bd<w1.heap.size:=Nat.lt_of_lt_of_le hbd B1.out.size;have NL:=hid nl;rw [ep] at n3;rw [ed] at n0;rw [hy] at a0;rw [hz] at b0;have HY:=hid hy;have HZ:=hid hz
 have KW:=hid (show ∀wx,Below w1.heap.size w1 wx→wx.cell? ⟨w.heap.size,0,none⟩=some (.slice (some ⟨bd,od,none⟩) S.dv.n S.dv.c)∧wx.cell? ⟨bd,od+y * 5+4,none⟩=some (.int .u32 X.vtep)∧wx.cell? ⟨bd,od+z2 * 5+4,none⟩=some (.int .u32 Y.vtep)∧Below w.heap.size w wx from fun wx hx=>⟨(hx.cell (p:=⟨_,0,none⟩) NL.out).trans n0,(hx.cell (p:=⟨bd,_,none⟩) hbd1).trans v4,(hx.cell (p:=⟨bd,_,none⟩) hbd1).trans u4,B1.out.trans (hx.mono B1.out.size)⟩)
 clear rp rq RP RQ rd re RD RE c1 c2 c3 c4 hy hz HDI HDX HDD ep ed rs rt E2
 go_upto_region 3 with (go_at_call 108;(with_reducible refine (PK.out _).mono ?_);rintro e wp ⟨rfl,hwp⟩;subst hwp)
 go_cut [7,8] (fun p q wx=>∃b7 b8,p=.pointer (some ⟨b7,0,none⟩)∧q=.pointer (some ⟨b8,0,none⟩)∧DBox wx b7 D s∧DBox wx b8 E t∧Below w1.heap.size w1 wx)
 case first=>
  go_region
  all_goals (try go_wp2)
  all_goals go_meet
  all_goals (refine ⟨_,_,rfl,rfl,?_,?_,?_⟩)
  all_goals first
   |exact (((Below.refl _ _).alloc (Nat.le_refl _) _).alloc (by simp) _).drew
   |exact ((Below.refl _ _).alloc (Nat.le_refl _) _).alloc (by simp) _
   |(constructor<;>(try rw [HY.out])<;>(try rw [HZ.out])<;>first|(simp;done)|(simp;omega))
 case rest=>
 obtain ⟨b7,b8,rfl,rfl,D7,E7,hbw⟩:=hcut;obtain ⟨k1,k2,k3,k4⟩:=KW.out wc hbw;have X7:=hid k4;have m0:=D7.c0;have m2:=D7.c2;have o0_:=E7.c0;have o2_:=E7.c2;have o5_:=E7.c5;rw [HY.out] at m0;rw [HZ.out] at o0_;clear n3 a0 a1 a2 a3 a4 a5 b0 b1 b2 b3 b4 b5 v4 u4 n0 nl k4 hbw D7 E7 PK;have E4:=E3.out
 by_cases t1:y=z2
 · have w1_:((y:Int) != (z2:Int))=false:=by simp;omega
   have EV:=hid (show V=false by rw [E4,decide_eq_false (show ¬D.dev≠E.dev from fun g=>g (by rw [HY.out,HZ.out,t1]))];rfl);clear t1 E4;go_wp2;go_ret;exact ⟨by rw [EV.out];rfl,X7.out⟩
 have w1_:((y:Int) != (z2:Int))=true:=by simp;omega
 rw [decide_eq_true (show D.dev≠E.dev by rw [HY.out,HZ.out];omega),Bool.true_and] at E4
 by_cases t2:D.vni=E.vni
 rotate_left
 · have w2_:(D.vni == E.vni)=false:=by simpa using t2
   have EV:=hid (show V=false by rw [E4,decide_eq_false t2];rfl);clear t1 t2 E4;go_wp2;go_ret;exact ⟨by rw [EV.out];rfl,X7.out⟩
 have w2_:(D.vni == E.vni)=true:=by simpa using t2
 rw [decide_eq_true t2,Bool.true_and] at E4
 by_cases t3:D.vni=0
 · have w3_:(D.vni != 0)=false:=by simpa using t3
   have EV:=hid (show V=false by rw [E4,decide_eq_false (show ¬D.vni≠0 from fun g=>g t3)];rfl);clear t1 t2 t3 E4;go_wp2;go_ret;exact ⟨by rw [EV.out];rfl,X7.out⟩
 have w3_:(D.vni != 0)=true:=by simpa using t3
 rw [decide_eq_true (show D.vni≠0 from t3),Bool.true_and] at E4
 by_cases t4:X.vtep=0
 · have w4_:(X.vtep != 0)=false:=by simpa using t4
   have EV:=hid (show V=false by rw [E4,decide_eq_false (show ¬X.vtep≠0 from fun g=>g t4)];rfl);clear t1 t2 t3 t4 E4;go_wp2;go_ret;exact ⟨by rw [EV.out];rfl,X7.out⟩
 have w4_:(X.vtep != 0)=true:=by simpa using t4
 rw [decide_eq_true (show X.vtep≠0 from t4),Bool.true_and] at E4
 by_cases t5:Y.vtep=0
 · have w5_:(Y.vtep != 0)=false:=by simpa using t5
   have EV:=hid (show V=false by rw [E4,decide_eq_false (show ¬Y.vtep≠0 from fun g=>g t5)];rfl);clear t1 t2 t3 t4 t5 E4;go_wp2;go_ret;exact ⟨by rw [EV.out];rfl,X7.out⟩
 have w5_:(Y.vtep != 0)=true:=by simpa using t5
 rw [decide_eq_true (show Y.vtep≠0 from t5),Bool.true_and] at E4;have EV:=hid E4;generalize memB E.peers (i:Int)=M at *;clear t1 t2 t3 t4 t5 E4;go_wp2_with (go_at_call 110;(with_reducible refine (IN.out _ X7.out).mono ?_);rintro e wi ⟨rfl,hwi⟩;subst hwi);go_ret;exact ⟨by rw [EV.out];rfl,X7.out⟩
end Go.Proofs.YtgmflecelnefcaaGreat
