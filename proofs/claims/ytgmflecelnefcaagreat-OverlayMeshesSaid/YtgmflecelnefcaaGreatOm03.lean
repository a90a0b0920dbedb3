import Derived.Test.YtgmflecelnefcaaGreatOm01
import Derived.Lib.ItoaNum
import Derived.Lib.AtoiAll
import Derived.Lib.AtoiAllCases
import Derived.Lib.AtoiTie
import Derived.Deep.RegionHeld
import Derived.KernelRfl
set_option maxRecDepth 100000
set_option maxHeartbeats 40000000
namespace Go.Proofs.YtgmflecelnefcaaGreat
open Go.Lib (decDigits nDigits)
def isD (c:UInt8):Bool:=48≤c && c≤57
theorem isD_iff (c:UInt8):isD c=true↔48≤c.toNat∧c.toNat≤57:=by
 unfold isD;simp [UInt8.le_iff_toNat_le]
def valD (l:List UInt8):Nat:=l.foldl (fun n c=>n * 10+(c.toNat - 48)) 0
theorem valD_snoc (l:List UInt8) (c:UInt8):valD (l++[c])=valD l * 10+(c.toNat - 48):=by simp [valD]
theorem valD_nil:valD []=0:=rfl
theorem ofNat_toNat {n:Nat} (h:n<256):(UInt8.ofNat n).toNat=n:=by simp;omega
theorem dec_small {u:Nat} (h:u<10):decDigits u=[UInt8.ofNat (48+u)]:=by rw [decDigits,dif_pos h]
theorem dec_big {u:Nat} (h:¬u<10):decDigits u=decDigits (u / 10)++[UInt8.ofNat (48+u % 10)]:=by rw [decDigits,dif_neg h]
theorem dec_ne (u:Nat):decDigits u≠[]:=by
 by_cases h:u<10
 · rw [dec_small h];simp
 · rw [dec_big h];simp
theorem dec_digits (u:Nat):∀c∈decDigits u,isD c=true:=by
 induction u using Nat.strongRecOn with
 |_ u ih=>
  by_cases h:u<10
  · rw [dec_small h]
    intro c hc;rw [List.mem_singleton.1 hc,isD_iff,ofNat_toNat (by omega)];omega
  · rw [dec_big h]
    intro c hc
    rcases List.mem_append.1 hc with hc|hc
    · exact ih (u / 10) (by omega) c hc
    · rw [List.mem_singleton.1 hc,isD_iff,ofNat_toNat (by omega)]
      omega
theorem dec_val (u:Nat):valD (decDigits u)=u:=by
 induction u using Nat.strongRecOn with
 |_ u ih=>
  by_cases h:u<10
  · rw [dec_small h,show [UInt8.ofNat (48+u)]=[]++[UInt8.ofNat (48+u)] from rfl,valD_snoc,ofNat_toNat (by omega),valD_nil]
    omega
  · rw [dec_big h,valD_snoc,ih (u / 10) (by omega),ofNat_toNat (by omega)]
    omega
theorem dec_len {u:Nat} (k:Nat) (hk:0<k) (h:u<10 ^ k):(decDigits u).length≤k:=by
 induction k generalizing u with
 |zero=>omega
 |succ k ih=>
  by_cases h1:u<10
  · rw [dec_small h1];simp
  · rw [dec_big h1,List.length_append]
    have h2:u / 10<10 ^ k:=by rw [Nat.pow_succ] at h;omega
    have hk0:0<k:=by
     rcases Nat.eq_zero_or_pos k with rfl|hp
     · simp at h2;omega
     · exact hp
    have:=ih hk0 h2
    simp;omega
theorem snoc_ind {P:List UInt8→Prop} (h0:P []) (h1:∀d c,P d→P (d++[c])) (d:List UInt8):P d:=by
 have key:∀r:List UInt8,P r.reverse:=by
  intro r
  induction r with
  |nil=>exact h0
  |cons c r ih=>rw [List.reverse_cons];exact h1 _ _ ih
 have:=key d.reverse
 rwa [List.reverse_reverse] at this
def numF (most:Nat) (l:List UInt8):Option (Nat×List UInt8):=
 if l.takeWhile isD=[] then none
 else if (l.takeWhile isD).head?=some 48∧1<(l.takeWhile isD).length then none
 else if most<valD (l.takeWhile isD) then none
 else some (valD (l.takeWhile isD),l.dropWhile isD)
theorem take_more {l:List UInt8} {k:Nat} (hk:k<l.length):l.take (k+1)=l.take k++[l.getD k 0]:=by
 rw [List.take_succ_eq_append_getElem hk];simp [List.getD,List.getElem?_eq_getElem hk]
open Go.Lib (decDigits nDigits)
def txt (a:Nat):List UInt8:=decDigits (a / 16777216)++46 :: (decDigits (a / 65536 % 256)++46 :: (decDigits (a / 256 % 256)++46 :: decDigits (a % 256)))
def rdStep (i:Nat) (p:Nat×List UInt8):Option (Nat×List UInt8):=
 if 0<i then
  match p.2 with
  |46 :: r=>(numF 255 r).map fun q=>(p.1 * 256+q.1,q.2)
  |_=>none
 else (numF 255 p.2).map fun q=>(p.1 * 256+q.1,q.2)
def rdSt (l:List UInt8):Nat→Option (Nat×List UInt8)
 |0=>some (0,l)
 |i+1=>(rdSt l i).bind (rdStep i)
def rdF (l:List UInt8):Option Nat:=
 match rdSt l 4 with
 |some (a,[])=>some a
 |_=>none
def headS (l:List UInt8):List UInt8:=l.takeWhile (fun c=>c != 47)
def tailS (l:List UInt8):List UInt8:=(l.dropWhile (fun c=>c != 47)).drop 1
def pfF (l:List UInt8):Option (Nat×Nat):=
 match rdF (headS l),numF 32 (tailS l) with
 |some a,some (b,[])=>some (a,b)
 |_,_=>none
open Go.Lib (decDigits nDigits itoa atoiAll atoi decNat decFrom)
def trimM (l:List UInt8):List UInt8:=if l.head?=some 45 then l.tail else l
theorem trimM_minus (r:List UInt8):trimM (45 :: r)=r:=by simp [trimM]
theorem trimM_other (l:List UInt8) (h:l.head?≠some 45):trimM l=l:=by unfold trimM;rw [if_neg h]
theorem itoa_pos (u:Nat):itoa (u:Int)=decDigits u:=by unfold itoa;rw [if_neg (by omega)];simp
theorem itoa_min (u:Nat) (h:1≤u):itoa (-(u:Int))=45 :: decDigits u:=by unfold itoa;rw [if_pos (by omega)];simp
theorem isD_45:isD 45=false:=by decide
theorem dec_head45 (u:Nat):(decDigits u).head?≠some 45:=by
 intro h
 cases hd:decDigits u with
 |nil=>exact dec_ne u hd
 |cons x r=>
  rw [hd] at h
  have hx:x=45:=by simpa using h
  have:=dec_digits u x (by rw [hd];simp)
  rw [hx,isD_45] at this
  cases this
theorem int_cases (n:Int):(∃u:Nat,n=(u:Int))∨∃u:Nat,1≤u∧n= -(u:Int):=by
 by_cases h:n<0
 · exact .inr ⟨n.natAbs,by omega,by omega⟩
 · exact .inl ⟨n.toNat,by omega⟩
theorem trim_itoa (n:Int):trimM (itoa n)=decDigits n.natAbs:=by
 rcases int_cases n with ⟨u,rfl⟩|⟨u,h,rfl⟩
 · rw [itoa_pos,trimM_other _ (dec_head45 u)];simp
 · rw [itoa_min u h,trimM_minus];simp
theorem itoa_head (n:Int):(itoa n).head?=some 45↔n<0:=by
 rcases int_cases n with ⟨u,rfl⟩|⟨u,h,rfl⟩
 · rw [itoa_pos];exact ⟨fun h=>absurd h (dec_head45 u),fun h=>by omega⟩
 · rw [itoa_min u h];exact ⟨fun _=>by omega,fun _=>rfl⟩
theorem decFrom_all (l:List UInt8):∀(acc:Nat),(∀c∈l,isD c=true)→decFrom acc l=some (l.foldl (fun n c=>n * 10+(c.toNat - 48)) acc):=by
 induction l with
 |nil=>intro acc _;rfl
 |cons c r ih=>
  intro acc h;have hc:=(isD_iff c).1 (h c (by simp))
  have hd:Go.Lib.digitVal c=some (c.toNat - 48):=by unfold Go.Lib.digitVal;rw [if_pos hc]
  simp only [decFrom,hd,List.foldl_cons];exact ih _ (fun x hx=>h x (by simp [hx]))
theorem decNat_all (l:List UInt8) (h0:l≠[]) (h:∀c∈l,isD c=true):decNat l=some (valD l):=by
 unfold decNat
 have:l.isEmpty=false:=by simpa using h0
 rw [this];simp only [Bool.false_eq_true,if_false];exact decFrom_all l 0 h
theorem atoi_itoa (n:Int):atoi (itoa n)=some n:=by
 rcases int_cases n with ⟨u,rfl⟩|⟨u,h,rfl⟩
 · rw [itoa_pos]
   have hn:=decNat_all _ (dec_ne u) (dec_digits u);rw [dec_val] at hn
   cases hd:decDigits u with
   |nil=>exact absurd hd (dec_ne u)
   |cons x r=>
    have hx:=(isD_iff x).1 (dec_digits u x (by rw [hd];simp))
    have h1:(x == 45)=false:=by
     rw [beq_eq_false_iff_ne];intro e;subst e;revert hx;decide
    have h2:(x == 43)=false:=by
     rw [beq_eq_false_iff_ne];intro e;subst e;revert hx;decide
    rw [hd] at hn;simp only [atoi,h1,h2,Bool.false_eq_true,if_false,hn]
    rfl
 · rw [itoa_min u h]
   have hn:=decNat_all _ (dec_ne u) (dec_digits u);rw [dec_val] at hn;simp [atoi,hn]
theorem trim_len (l:List UInt8):l.length≤(trimM l).length+1:=by
 unfold trimM
 split
 · simp;omega
 · omega
theorem atoiAll_itoa (n:Int) (h:(trimM (itoa n)).length≤10):atoiAll (itoa n)=.ok n:=by
 rw [Go.Lib.atoiAll_short _ (by have:=trim_len (itoa n);omega),atoi_itoa]
 rfl
def nF (l:List UInt8) (lo hi:Int):Option Int:=
 if 10<(trimM l).length then none
 else match atoiAll l with
  | .ok n=>if lo≤n∧n≤hi∧itoa n=l then some n else none
  |_=>none
theorem nF_iff {l:List UInt8} {lo hi n:Int}:nF l lo hi=some n↔itoa n=l∧(trimM l).length≤10∧lo≤n∧n≤hi:=by
 unfold nF
 by_cases h:10<(trimM l).length
 · rw [if_pos h]
   exact ⟨(fun e=>by cases e),fun e=>by omega⟩
 · rw [if_neg h]
   constructor
   · intro e
     split at e
     · rename_i m hm
       split at e
       · rename_i hc
         obtain rfl:m=n:=by simpa using e
         exact ⟨hc.2.2,by omega,hc.1,hc.2.1⟩
       · cases e
     · cases e
   · rintro ⟨rfl,h1,h2,h3⟩
     rw [atoiAll_itoa n h1];simp only;rw [if_pos ⟨h2,h3,trivial⟩]
theorem opt_eq {α:Type} {a b:Option α} (h:∀x,a=some x↔b=some x):a=b:=by
 cases a with
 |none=>
  cases b with
  |none=>rfl
  |some y=>exact absurd ((h y).2 rfl) (by simp)
 |some x=>exact ((h x).1 rfl).symm
def rN (l:List UInt8):Int:=if l.head?=some 45 then -(valD (trimM l):Int) else (valD (trimM l):Int)
theorem nF_ref {l:List UInt8} {lo hi:Int} (h1:1≤(trimM l).length) (h2:(trimM l).length≤10) (h3:∀c∈trimM l,isD c=true):
 nF l lo hi=if lo≤rN l∧rN l≤hi∧itoa (rN l)=l then some (rN l) else none:=by
 refine opt_eq fun n=>?_
 rw [nF_iff]
 have key:itoa n=l→rN l=n:=by
  rintro rfl;unfold rN;rw [trim_itoa,dec_val]
  by_cases hn:n<0
  · rw [if_pos ((itoa_head n).2 hn)];omega
  · rw [if_neg (fun e=>hn ((itoa_head n).1 e))];omega
 constructor
 · rintro ⟨e,_,g1,g2⟩
   rw [key e,if_pos ⟨g1,g2,e⟩]
 · intro e
   split at e
   · rename_i hc
     have e2:rN l=n:=by simpa using e
     rw [e2] at hc;exact ⟨hc.2.2,h2,hc.1,hc.2.1⟩
   · cases e
theorem nF_none_len {l:List UInt8} {lo hi:Int} (h:(trimM l).length<1∨10<(trimM l).length):nF l lo hi=none:=by
 rcases hx:nF l lo hi with _|n
 · rfl
 · obtain ⟨e,h1,_⟩:=nF_iff.1 hx
   subst e;rw [trim_itoa] at h h1
   have:(decDigits n.natAbs).length≠0:=fun e=>dec_ne _ (List.eq_nil_of_length_eq_zero e)
   omega
theorem nF_none_digit {l:List UInt8} {lo hi:Int} {c:UInt8} (hc:c∈trimM l) (h:isD c=false):nF l lo hi=none:=by
 rcases hx:nF l lo hi with _|n
 · rfl
 · obtain ⟨e,h1,_⟩:=nF_iff.1 hx
   subst e;rw [trim_itoa] at hc;rw [dec_digits _ c hc] at h
   cases h
theorem itoa_len (n:Int) (h0: -9223372036854775808≤n) (h1:n≤9223372036854775807):(itoa n).length≤20:=by
 have h:=trim_len (itoa n);rw [trim_itoa] at h;have h2:(decDigits n.natAbs).length≤19:=dec_len 19 (by omega) (show n.natAbs<10000000000000000000 by omega);omega
def splitC:List UInt8→List (List UInt8)
 | []=>[[]]
 |c :: r=>if c=44 then [] :: splitC r else match splitC r with
  |h :: t=>(c :: h) :: t
  | []=>[[c]]
def allRd (rd:List UInt8→Option Int):List (List UInt8)→Option (List Int)
 | []=>some []
 |a :: r=>(rd a).bind fun x=>(allRd rd r).map (x :: ·)
def upB:List Int→Bool
 | []=>true
 | [_]=>true
 |a :: b :: r=>decide (a<b) && upB (b :: r)
def Up (xs:List Int) (k:Nat):Prop:=∀i,0<i→i<k→xs.getD (i - 1) 0<xs.getD i 0
theorem Up.one (xs:List Int):Up xs 1:=fun i h0 h1=>by omega
theorem Up.zero (xs:List Int):Up xs 0:=fun i h0 h1=>by omega
theorem Up.next {xs:List Int} {k:Nat} (h:Up xs k) (hk:xs.getD (k - 1) 0<xs.getD k 0):Up xs (k+1):=fun i h0 h1=>by
 by_cases e:i=k
 · subst e;exact hk
 · exact h i h0 (by omega)
theorem Up.less {xs:List Int} {k j:Nat} (h:Up xs k) (hj:j≤k):Up xs j:=fun i h0 h1=>h i h0 (by omega)
theorem upB_iff (xs:List Int):upB xs=true↔Up xs xs.length:=by
 induction xs with
 |nil=>exact ⟨fun _=>Up.zero _,fun _=>rfl⟩
 |cons a r ih=>
  cases r with
  |nil=>exact ⟨fun _=>Up.one _,fun _=>rfl⟩
  |cons b r=>
   simp only [upB,Bool.and_eq_true,decide_eq_true_eq]
   constructor
   · rintro ⟨h1,h2⟩ i h0 hi
     have h3:=ih.1 h2
     rcases i with _|i
     · omega
     · rcases i with _|i
       · simpa using h1
       · have:=h3 (i+1) (by omega) (by simpa using hi)
         simpa using this
   · intro h
     refine ⟨by simpa using h 1 (by omega) (by simp),ih.2 fun i h0 hi=>?_⟩
     have:=h (i+1) (by omega) (by simpa using hi)
     rcases i with _|i
     · omega
     · simpa using this
def risB (xs:List Int):Bool:=decide (1≤xs.length) && decide (xs.length≤16) && upB xs
theorem risB_iff (xs:List Int):risB xs=true↔1≤xs.length∧xs.length≤16∧Up xs xs.length:=by
 unfold risB;rw [Bool.and_eq_true,Bool.and_eq_true,upB_iff,decide_eq_true_eq,decide_eq_true_eq,and_assoc]
theorem risB_no (xs:List Int) (h:xs.length<1∨16<xs.length):risB xs=false:=by
 cases hx:risB xs with
 |false=>rfl
 |true=>have:=(risB_iff xs).1 hx;omega
theorem risB_down {xs:List Int} {k:Nat} (h0:0<k) (hk:k<xs.length) (h:xs.getD k 0≤xs.getD (k - 1) 0):risB xs=false:=by
 cases hx:risB xs with
 |false=>rfl
 |true=>have:=((risB_iff xs).1 hx).2.2 k h0 hk;omega
def inB (xs:List Int) (lo hi:Int):Bool:=xs.all fun x=>decide (lo≤x) && decide (x≤hi)
def risIn (xs:List Int) (lo hi:Int):Bool:=risB xs && inB xs lo hi
theorem Up.mono {xs:List Int} {n:Nat} (h:Up xs n):∀j i,i≤j→j<n→xs.getD i 0≤xs.getD j 0:=by
 intro j
 induction j with
 |zero=>intro i hi _;obtain rfl:i=0:=by omega
        omega
 |succ j ih=>
  intro i hi hj
  by_cases e:i=j+1
  · subst e;omega
  · have:=ih i (by omega) (by omega)
    have:=h (j+1) (by omega) hj
    rw [Nat.add_sub_cancel] at this;omega
theorem getD_mem {xs:List Int} {i:Nat} (h:i<xs.length):xs.getD i 0∈xs:=by
 rw [List.getD,List.getElem?_eq_getElem h];exact List.getElem_mem h
theorem mem_getD {xs:List Int} {x:Int} (h:x∈xs):∃i,i<xs.length∧xs.getD i 0=x:=by
 obtain ⟨i,hi,e⟩:=List.mem_iff_getElem.1 h;exact ⟨i,hi,by rw [List.getD,List.getElem?_eq_getElem hi];exact e⟩
theorem inB_iff (xs:List Int) (lo hi:Int):inB xs lo hi=true↔∀x∈xs,lo≤x∧x≤hi:=by
 unfold inB;rw [List.all_eq_true];exact ⟨fun h x hx=>by have:=h x hx;simpa using this,fun h x hx=>by have:=h x hx;simpa using this⟩
theorem risIn_ends (xs:List Int) (lo hi:Int) (h:risB xs=true):inB xs lo hi=(decide (lo≤xs.getD 0 0) && decide (xs.getD (xs.length - 1) 0≤hi)):=by
 obtain ⟨h1,h2,h3⟩:=(risB_iff xs).1 h;rw [Bool.eq_iff_iff,inB_iff,Bool.and_eq_true,decide_eq_true_eq,decide_eq_true_eq]
 constructor
 · intro g
   exact ⟨(g _ (getD_mem (by omega))).1,(g _ (getD_mem (by omega))).2⟩
 · rintro ⟨g1,g2⟩ x hx
   obtain ⟨i,hi',rfl⟩:=mem_getD hx
   have:=h3.mono i 0 (by omega) hi'
   have:=h3.mono (xs.length - 1) i (by omega) (by omega)
   omega
def rlF (rd:List UInt8→Option Int) (l:List UInt8):Option (List Int):=match allRd rd (splitC l) with
 |some xs=>if risB xs=true then some xs else none
 |none=>none
theorem rlF_yes {rd:List UInt8→Option Int} {l:List UInt8} {xs:List Int} (h:allRd rd (splitC l)=some xs) (hr:risB xs=true):rlF rd l=some xs:=by
 unfold rlF;rw [h];simp only;rw [if_pos hr]
theorem tb_high (n i:Nat) (hn:n≤32):(4294967295 - (2 ^ n - 1)).testBit i=(decide (n≤i) && decide (i<32)):=by
 have h1:2 ^ 32=2 ^ (32 - n) * 2 ^ n:=by rw [←Nat.pow_add,Nat.sub_add_cancel hn]
 have h0:1≤2 ^ n:=Nat.one_le_two_pow
 have h2:4294967295 - (2 ^ n - 1)=(2 ^ (32 - n) - 1) * 2 ^ n:=by
  rw [Nat.sub_mul,←h1];omega
 rw [h2,Nat.testBit_mul_two_pow,Nat.testBit_two_pow_sub_one]
 by_cases h:n≤i
 · simp only [h,decide_true,Bool.true_and]
   congr 1
   apply propext
   omega
 · simp [h]
theorem tb_cut (x n i:Nat):(x / 2 ^ n * 2 ^ n).testBit i=(decide (n≤i) && x.testBit i):=by
 rw [Nat.testBit_mul_two_pow]
 by_cases h:n≤i
 · simp only [h,decide_true,Bool.true_and]
   rw [Nat.testBit_div_two_pow,Nat.sub_add_cancel h]
 · simp [h]
theorem lt_tb {x:Nat} (hx:x<4294967296) (i:Nat) (hi:¬i<32):x.testBit i=false:=
 Nat.testBit_lt_two_pow (Nat.lt_of_lt_of_le (show x<2 ^ 32 from hx) (Nat.pow_le_pow_right (by decide) (by omega)))
theorem and_high (x n:Nat) (hx:x<4294967296) (hn:n≤32):x &&& (4294967295 - (2 ^ n - 1))=x / 2 ^ n * 2 ^ n:=by
 apply Nat.eq_of_testBit_eq
 intro i;rw [Nat.testBit_and,tb_high n i hn,tb_cut]
 by_cases h:i<32
 · simp [h,Bool.and_comm]
 · simp [lt_tb hx i h]
theorem or_low (x n:Nat):x |||(2 ^ n - 1)=x / 2 ^ n * 2 ^ n+(2 ^ n - 1):=by
 have h0:1≤2 ^ n:=Nat.one_le_two_pow;have e:=Nat.two_pow_add_eq_or_of_lt (i:=n) (b:=2 ^ n - 1) (by omega) (x / 2 ^ n);rw [Nat.mul_comm] at e;rw [e]
 apply Nat.eq_of_testBit_eq
 intro i;rw [Nat.testBit_or,Nat.testBit_or,tb_cut,Nat.testBit_two_pow_sub_one]
 by_cases h:n≤i
 · simp [h]
 · simp [h];intro _;omega
def sz (b:Nat):Nat:=2 ^ (32 - b)
theorem sz_pos (b:Nat):1≤sz b:=Nat.one_le_two_pow
theorem sz_le (b:Nat):sz b≤4294967296:=by
 have h:2 ^ (32 - b)≤2 ^ 32:=Nat.pow_le_pow_right (by decide) (Nat.sub_le 32 b);exact h
def fsN (a b:Nat):Nat:=a / sz b * sz b
def lsN (a b:Nat):Nat:=a / sz b * sz b+(sz b - 1)
theorem fsN_le (a b:Nat):fsN a b≤a:=Nat.div_mul_le_self a (sz b)
theorem lsN_ge (a b:Nat):a≤lsN a b:=by
 have h1:=Nat.div_add_mod a (sz b);have h2:=Nat.mod_lt a (sz_pos b);rw [Nat.mul_comm] at h1;unfold lsN;omega
theorem has_iff (a b x:Nat):x / sz b=a / sz b↔fsN a b≤x∧x≤lsN a b:=by
 have h0:=sz_pos b;unfold fsN lsN
 constructor
 · intro h
   rw [←h];exact ⟨fsN_le x b,lsN_ge x b⟩
 · rintro ⟨h1,h2⟩
   have h3:a / sz b≤x / sz b:=(Nat.le_div_iff_mul_le h0).2 h1
   have h4:x / sz b<a / sz b+1:=by
    rw [Nat.div_lt_iff_lt_mul h0,Nat.add_mul];omega
   omega
def RT (B:Int):Bool:=decide (0≤B∧B≤32)
def FS (A B:Int):Int:=if RT B=true then (fsN A.toNat B.toNat:Nat) else 0
def LS (A B:Int):Int:=if RT B=true then (lsN A.toNat B.toNat:Nat) else 0
def HS (A B x:Int):Bool:=RT B && decide (x.toNat / sz B.toNat=A.toNat / sz B.toNat)
theorem RT_iff (B:Int):RT B=true↔0≤B∧B≤32:=by simp [RT]
theorem RT_nat {B:Int} (h:RT B=true):∃b:Nat,B=(b:Int)∧b≤32:=by
 obtain ⟨h1,h2⟩:=(RT_iff B).1 h;exact ⟨B.toNat,by omega,by omega⟩
theorem free_eq (b:Nat) (h:b≤32):(4294967295:Int) / 2 ^ b=((sz b - 1:Nat):Int):=by
 have:∀i:Fin 33,(4294967295:Int) / 2 ^ i.val=((sz i.val - 1:Nat):Int):=by decide +kernel
 exact this ⟨b,by omega⟩
open Go
section
variable {P:Program} {ops:Array Oper} {Q:Exit→Act→World→Prop} {md:Region.Mode} {S:World→Prop}
def StepRun (P:Program) (S:World→Prop) (v:Value):Result Next→Prop
 | .ok (.value u) w'=>u=v∧S w'
 | .ok .skip w'=>undef=v∧S w'
 | .ok (.enter f args) w'=>Calls P f args w' fun e w''=>e=.returned v∧S w''
 |_=>False
def StepS (P:Program) (ops:Array Oper) (S:World→Prop) (o:Oper) (v:Value) (a:Act):Prop:=
 (Region.wanted o (yielded ops a.tmps)=true∧∀w,S w→StepRun P S v ((execOp a.eval o).run P w))∨
 (Region.wanted o (yielded ops a.tmps)=false∧v=undef)
theorem StepS.of_put {o:Oper} {v u:Value} {a:Act} {dst:Option Tmp} (hs:∀cs b,o.op≠.select cs b) (h:∀d,dst=some d→d∉o.looksAt ops):
 StepS P ops S o v (a.put dst u)↔StepS P ops S o v a:=by
 unfold StepS;rw [execOp_put o hs a dst u h,wanted_put o a dst u h]
theorem StepS.wpOp {i:Nat} {o:Oper} {v:Value} {a:Act} (hi:ops[i]?=some o) (hy:StepS P ops S o v a) {K:Act→World→Prop} {w:World} (hS:S w) (h:∀w',S w'→K (a.put o.dst v) w'):
 wpOp P ops Q i K a w:=by
 unfold Go.wpOp;simp only [hi]
 rcases hy with ⟨hw,hv⟩|⟨hw,rfl⟩
 · simp only [hw,if_true]
   left
   have hr:=hv w hS;unfold Oper.wp;generalize (execOp a.eval o).run P w=r at hr ⊢
   cases r with
   |ok n w'=>
    cases n with
    |value u=>
     obtain ⟨rfl,h2⟩:=hr;exact h _ h2
    |skip=>
     obtain ⟨rfl,h2⟩:=hr;exact h _ h2
    |enter f args=>exact Calls.mono (show Calls P f args w' _ from hr) fun e w'' ⟨he,hs⟩=>by subst he;exact h _ hs
    |_=>exact (show False from hr).elim
   |halt x w'=>exact (show False from hr).elim
 · simp only [hw,Bool.false_eq_true,if_false]
   exact h w hS
def Der (P:Program) (md:Region.Mode) (ops:Array Oper) (Q:Exit→Act→World→Prop) (S:World→Prop):Nat→Array Bool→Act→Prop
 |0,listed,a=>Region.ready md ops listed=[]∧∀w,S w→Q .normal a w
 |fuel+1,listed,a=>(Region.ready md ops listed=[]∧∀w,S w→Q .normal a w)∨
  ∃i oi v,ops[i]?=some oi∧Region.free md ops listed i=true∧i∈Region.ready md ops listed∧StepS P ops S oi v a∧Der P md ops Q S fuel (listed.setIfInBounds i true) (a.put oi.dst v)
theorem free_more {listed:Array Bool} {i j:Nat} (h:Region.free md ops listed i=true):Region.free md ops (listed.setIfInBounds j true) i=true:=by
 unfold Region.free at h ⊢
 cases ho:ops[i]? with
 |none=>rw [ho] at h;exact h
 |some oi=>
  rw [ho] at h;simp only [List.all_eq_true,List.mem_range] at h ⊢;intro k hk;have h1:=h k hk;simp only [Bool.or_eq_true] at h1 ⊢
  rcases h1 with (h1|h1)|h1
  · exact .inl (.inl h1)
  · refine .inl (.inr ?_)
    by_cases hjk:j=k
    · subst hjk
      rcases Nat.lt_or_ge j listed.size with h'|h'
      · simp [h']
      · simp
    · rw [getD_set_ne true hjk];exact h1
  · exact .inr h1
theorem Der.swap (hsel:∀(j:Nat) (o:Oper) cs b,ops[j]?=some o→o.op≠.select cs b):∀(fuel:Nat) (listed:Array Bool) (a:Act),Der P md ops Q S (fuel+1) listed a→
 ∀(j:Nat) (oj:Oper),ops[j]?=some oj→j∈Region.ready md ops listed→∃v,StepS P ops S oj v a∧Der P md ops Q S fuel (listed.setIfInBounds j true) (a.put oj.dst v):=by
 intro fuel
 induction fuel with
 |zero=>
  intro listed a D j oj hoj hj
  rcases D with ⟨hr,_⟩|⟨i,oi,v,hi,hf,hr,hy,D'⟩
  · rw [hr] at hj;cases hj
  · by_cases hij:j=i
    · subst hij
      rw [hi] at hoj
      cases hoj
      exact ⟨v,hy,D'⟩
    · have:=ready_mono hj hij
      rw [D'.1] at this
      cases this
 |succ fuel ih=>
  intro listed a D j oj hoj hj
  rcases D with ⟨hr,_⟩|⟨i,oi,v,hi,hf,hr,hy,D'⟩
  · rw [hr] at hj;cases hj
  · by_cases hij:j=i
    · subst hij
      rw [hi] at hoj
      cases hoj
      exact ⟨v,hy,D'⟩
    · obtain ⟨u,hyj,D2⟩:=ih _ _ D' j oj hoj (ready_mono hj hij)
      obtain ⟨hjun,oj2,hoj2,hall⟩:=mem_ready.1 hj;rw [hoj] at hoj2
      cases hoj2
      have hnot:∀e∈oj.after,Region.binds md e=true→e.on≠i:=fun e he hb heq=>by
       have h1:=hall e he hb;have h0:=(mem_ready.1 hr).1;rw [heq] at h1
       rcases Nat.lt_or_ge i listed.size with h'|h'
       · simp [h'] at h0 h1;rw [h0] at h1;cases h1
       · simp [Array.getElem?_eq_none h'] at h1
      obtain ⟨h1,h2,h3⟩:=Oper.apart_spec (Region.free_spec hi hf j oj hoj hij hjun hnot)
      refine ⟨u,(StepS.of_put (hsel j oj · · hoj) h1).1 hyj,.inr ⟨i,oi,v,hi,free_more hf,ready_mono hr (Ne.symm hij),(StepS.of_put (hsel i oi · · hi) h3).2 hy,?_⟩⟩
      rw [Array.setIfInBounds_comm _ _ hij,←Act.put_comm a v u h2];exact D2
theorem Der.any (hsel:∀(j:Nat) (o:Oper) cs b,ops[j]?=some o→o.op≠.select cs b):∀(fuel:Nat) (listed:Array Bool) (a:Act),Der P md ops Q S fuel listed a→∀w,S w→wpAny P md ops Q fuel listed a w:=by
 intro fuel
 induction fuel with
 |zero=>intro listed a D w hS;exact ⟨D.1,D.2 w hS⟩
 |succ fuel ih=>
  intro listed a D w hS;refine ⟨fun hr=>?_,fun j hj=>?_⟩
  · rcases D with ⟨_,h⟩|⟨i,oi,v,hi,hf,hr2,hy,D'⟩
    · exact h w hS
    · rw [hr] at hr2;cases hr2
  · obtain ⟨_,oj,hoj,_⟩:=mem_ready.1 hj
    obtain ⟨v,hy,D'⟩:=Der.swap hsel fuel listed a D j oj hoj hj;exact hy.wpOp hoj hS (fun w' hS'=>ih _ _ D' w' hS')
def upto (n k:Nat):Array Bool:=((List.range n).map fun i=>decide (i<k)).toArray
theorem upto_zero (n:Nat):upto n 0=Array.replicate n false:=by
 unfold upto
 apply Array.ext'
 simp only [Array.toList_replicate]
 apply List.ext_getElem
 · simp
 · intro i h1 h2;simp
theorem upto_set (n k:Nat):(upto n k).setIfInBounds k true=upto n (k+1):=by
 unfold upto
 apply Array.ext'
 rw [List.setIfInBounds_toArray]
 apply List.ext_getElem
 · simp
 · intro i h1 h2
   simp only [List.getElem_set,List.getElem_map,List.getElem_range]
   by_cases h:k=i
   · subst h;simp
   · simp [h];omega
theorem upto_ready (k:Nat) (h:ops.size≤k):Region.ready md ops (upto ops.size k)=[]:=by
 rw [List.eq_nil_iff_forall_not_mem];intro j hj;obtain ⟨h0,o,ho,_⟩:=mem_ready.1 hj;have hlt:=(Array.getElem?_eq_some_iff.1 ho).1;simp [upto,hlt] at h0;omega
def textOk (md:Region.Mode) (ops:Array Oper):Bool:=
 Region.noSelect ops && (List.range ops.size).all fun k=>Region.free md ops (upto ops.size k) k && (Region.ready md ops (upto ops.size k)).contains k
def Seq (P:Program) (ops:Array Oper) (Q:Exit→Act→World→Prop) (S:World→Prop):List Oper→Act→Prop
 | [],a=>∀w,S w→Q .normal a w
 |o :: rest,a=>∃v,StepS P ops S o v a∧Seq P ops Q S rest (a.put o.dst v)
theorem Seq.run {o:Oper} {rest:List Oper} {a:Act} (v:Value) (hw:Region.wanted o (yielded ops a.tmps)=true) (hr:∀w,S w→StepRun P S v ((execOp a.eval o).run P w)) (h:Seq P ops Q S rest (a.put o.dst v)):
 Seq P ops Q S (o :: rest) a:=⟨v,.inl ⟨hw,hr⟩,h⟩
theorem Seq.pass {o:Oper} {rest:List Oper} {a:Act} (hw:Region.wanted o (yielded ops a.tmps)=false) (h:Seq P ops Q S rest (a.put o.dst undef)):
 Seq P ops Q S (o :: rest) a:=⟨undef,.inr ⟨hw,rfl⟩,h⟩
theorem Seq.der (hck:textOk md ops=true):∀(n k:Nat) (a:Act),k+n=ops.size→Seq P ops Q S (ops.toList.drop k) a→Der P md ops Q S n (upto ops.size k) a:=by
 unfold textOk at hck;simp only [Bool.and_eq_true,List.all_eq_true,List.mem_range] at hck;intro n
 induction n with
 |zero=>
  intro k a hk h;rw [List.drop_eq_nil_of_le (by simp;omega)] at h;exact ⟨upto_ready k (by omega),h⟩
 |succ n ih=>
  intro k a hk h
  have hlt:k<ops.size:=by omega
  rw [List.drop_eq_getElem_cons (by simpa using hlt)] at h;obtain ⟨v,hs,h⟩:=h;obtain ⟨h1,h2⟩:=hck.2 k hlt;refine .inr ⟨k,ops[k],v,Array.getElem?_eq_getElem hlt,h1,by simpa using h2,by simpa using hs,?_⟩;rw [upto_set];exact ih (k+1) _ (by omega) (by simpa using h)
theorem wp_region_seq {id:Nat} {a:Act} {w:World} (hm:P.follows .mixedOrders=true) (hck:textOk .any ops=true) (hS:S w.drew) (h:Seq P ops Q S ops.toList a):(Code.region id ops true).wp P Q a w:=by
 have hsel:=Region.noSelect_spec (ops:=ops) (by unfold textOk at hck;rw [Bool.and_eq_true] at hck;exact hck.1);have hd:=Seq.der (md:=.any) hck ops.size 0 a (by omega) (by simpa using h);rw [upto_zero] at hd;exact wp_region_any hm (Der.any hsel _ _ _ hd _ hS)
theorem StepRun.val {v:Value} {w:World} (h:S w):StepRun P S v (.ok (.value v) w):=⟨rfl,h⟩
theorem StepRun.call {v:Value} {w:World} {f:FuncId} {args:Array Value} (h:Calls P f args w fun e w'=>e=.returned v∧S w'):StepRun P S v (.ok (.enter f args) w):=h
theorem Seq.last {a:Act} (h:∀w,S w→Q .normal a w):Seq P ops Q S [] a:=h
theorem wp_region_text {l:List Oper} {id:Nat} {a:Act} {w:World} (S:World→Prop) (hm:P.follows .mixedOrders=true) (hck:textOk .any l.toArray=true) (hS:S w.drew) (h:Seq P l.toArray Q S l a):(Code.region id l.toArray true).wp P Q a w:=
 wp_region_seq hm hck hS h
end
end Go.Proofs.YtgmflecelnefcaaGreat
