import Derived.Test.YtgmflecelnefcaaGreatOp01
import Derived.Lib.ItoaNum
import Derived.Lib.AtoiAll
import Derived.Lib.AtoiAllCases
import Derived.Lib.AtoiTie
set_option maxRecDepth 100000
set_option maxHeartbeats 40000000
namespace Go.Proofs.YtgmflecelnefcaaGreat
open Go.Lib (decDigits nDigits)
def isD (c:UInt8):Bool:=48≤c && c≤57
theorem vEv (c:UInt8):isD c=true↔48≤c.toNat∧c.toNat≤57:=by
 unfold isD;simp [UInt8.le_iff_toNat_le]
def vGs (l:List UInt8):Nat:=l.foldl (fun n c=>n * 10+(c.toNat - 48)) 0
theorem vCv (l:List UInt8) (c:UInt8):vGs (l++[c])=vGs l * 10+(c.toNat - 48):=by simp [vGs]
theorem valD_nil:vGs []=0:=rfl
theorem vDw {n:Nat} (h:n<256):(UInt8.ofNat n).toNat=n:=by simp;omega
theorem vFz (c:UInt8) (n:Nat) (h:c.toNat=n):UInt8.ofNat n=c:=by subst h;simp
theorem vBt {u:Nat} (h:u<10):decDigits u=[UInt8.ofNat (48+u)]:=by rw [decDigits,dif_pos h]
theorem vEj {u:Nat} (h:¬u<10):decDigits u=decDigits (u / 10)++[UInt8.ofNat (48+u % 10)]:=by rw [decDigits,dif_neg h]
theorem vHj (u:Nat):decDigits u≠[]:=by
 by_cases h:u<10
 · rw [vBt h];simp
 · rw [vEj h];simp
theorem vBv (u:Nat):∀c∈decDigits u,isD c=true:=by
 induction u using Nat.strongRecOn with
 |_ u ih=>
  by_cases h:u<10
  · rw [vBt h]
    intro c hc;rw [List.mem_singleton.1 hc,vEv,vDw (by omega)];omega
  · rw [vEj h]
    intro c hc
    rcases List.mem_append.1 hc with hc|hc
    · exact ih (u / 10) (by omega) c hc
    · rw [List.mem_singleton.1 hc,vEv,vDw (by omega)]
      omega
theorem vGm (u:Nat):vGs (decDigits u)=u:=by
 induction u using Nat.strongRecOn with
 |_ u ih=>
  by_cases h:u<10
  · rw [vBt h,show [UInt8.ofNat (48+u)]=[]++[UInt8.ofNat (48+u)] from rfl,vCv,vDw (by omega),valD_nil]
    omega
  · rw [vEj h,vCv,ih (u / 10) (by omega),vDw (by omega)]
    omega
theorem dec_inj {a b:Nat} (h:decDigits a=decDigits b):a=b:=by rw [←vGm a,h,vGm]
theorem dec_head (u:Nat) (h:0<u):(decDigits u).head?≠some 48:=by
 induction u using Nat.strongRecOn with
 |_ u ih=>
  by_cases h1:u<10
  · rw [vBt h1]
    intro e
    have e2:UInt8.ofNat (48+u)=48:=by simpa using e
    have e3:=congrArg UInt8.toNat e2;rw [vDw (by omega)] at e3
    have:(48:UInt8).toNat=48:=rfl
    omega
  · rw [vEj h1]
    have ih:=ih (u / 10) (by omega) (by omega)
    cases hd:decDigits (u / 10) with
    |nil=>exact absurd hd (vHj _)
    |cons x r=>rw [hd] at ih;simpa using ih
theorem dec_zero:decDigits 0=[48]:=by rw [vBt (by omega)];rfl
theorem vGp {u:Nat} (k:Nat) (hk:0<k) (h:u<10 ^ k):(decDigits u).length≤k:=by
 induction k generalizing u with
 |zero=>omega
 |succ k ih=>
  by_cases h1:u<10
  · rw [vBt h1];simp
  · rw [vEj h1,List.length_append]
    have h2:u / 10<10 ^ k:=by rw [Nat.pow_succ] at h;omega
    have hk0:0<k:=by
     rcases Nat.eq_zero_or_pos k with rfl|hp
     · simp at h2;omega
     · exact hp
    have:=ih hk0 h2
    simp;omega
def okD (d:List UInt8):Prop:=d≠[]∧(d.head?=some 48→d.length=1)
theorem ok_dec (u:Nat):okD (decDigits u):=by
 refine ⟨vHj u,fun h=>?_⟩
 rcases Nat.eq_zero_or_pos u with rfl|hp
 · rw [dec_zero];rfl
 · exact absurd h (dec_head u hp)
theorem ok_front {d:List UInt8} {c:UInt8} (h:okD (d++[c])) (hd:d≠[]):okD d∧d.head?≠some 48:=by
 cases d with
 |nil=>exact absurd rfl hd
 |cons x r=>
  have h2:=h.2
  have hx:x≠48:=by
   intro e;subst e
   have:=h2 rfl
   simp at this
  exact ⟨⟨by simp,fun e=>absurd (by simpa using e) hx⟩,by simpa using hx⟩
theorem snoc_ind {P:List UInt8→Prop} (h0:P []) (h1:∀d c,P d→P (d++[c])) (d:List UInt8):P d:=by
 have key:∀r:List UInt8,P r.reverse:=by
  intro r
  induction r with
  |nil=>exact h0
  |cons c r ih=>rw [List.reverse_cons];exact h1 _ _ ih
 have:=key d.reverse
 rwa [List.reverse_reverse] at this
theorem val_pos {d:List UInt8} (hd:d≠[]) (hD:∀c∈d,isD c=true) (hz:d.head?≠some 48):0<vGs d:=by
 induction d using snoc_ind with
 |h0=>exact absurd rfl hd
 |h1 d c ih=>
  rw [vCv];have hc:=(vEv c).1 (hD c (by simp))
  cases d with
  |nil=>
   have:c≠48:=by simpa using hz
   have h48:c.toNat≠48:=fun e=>this (by rw [←vFz c 48 e];rfl)
   simp [vGs];omega
  |cons x r=>
   have:=ih (by simp) (fun c hc=>hD c (List.mem_append_left _ hc)) (by simpa using hz)
   omega
theorem dec_of {d:List UInt8} (h:okD d) (hD:∀c∈d,isD c=true):decDigits (vGs d)=d:=by
 induction d using snoc_ind with
 |h0=>exact absurd rfl h.1
 |h1 d c ih=>
  have hc:=(vEv c).1 (hD c (by simp));rw [vCv]
  by_cases hd:d=[]
  · subst hd
    rw [valD_nil,vBt (by omega),vFz c _ (by omega)]
    rfl
  · obtain ⟨h1,h2⟩:=ok_front h hd
    have hDd:∀c∈d,isD c=true:=fun x hx=>hD x (by simp [hx])
    have hp:=val_pos hd hDd h2;rw [vEj (by omega),show (vGs d * 10+(c.toNat - 48)) / 10=vGs d by omega,ih h1 hDd,vFz c _ (by omega)]
def numF (most:Nat) (l:List UInt8):Option (Nat×List UInt8):=
 if l.takeWhile isD=[] then none
 else if (l.takeWhile isD).head?=some 48∧1<(l.takeWhile isD).length then none
 else if most<vGs (l.takeWhile isD) then none
 else some (vGs (l.takeWhile isD),l.dropWhile isD)
def noD (l:List UInt8):Prop:=∀c,l.head?=some c→isD c=false
theorem takeD_app (d r:List UInt8) (hD:∀c∈d,isD c=true) (hr:noD r):(d++r).takeWhile isD=d∧(d++r).dropWhile isD=r:=by
 induction d with
 |nil=>
  cases r with
  |nil=>simp
  |cons c r=>have:=hr c rfl;simp [this]
 |cons x d ih=>
  have hx:=hD x (by simp);obtain ⟨i1,i2⟩:=ih (fun c hc=>hD c (by simp [hc]));simp [hx,i1,i2]
theorem dropD_no (l:List UInt8):noD (l.dropWhile isD):=by
 induction l with
 |nil=>intro c hc;simp at hc
 |cons x l ih=>
  intro c hc
  by_cases hx:isD x=true
  · rw [List.dropWhile_cons,if_pos hx] at hc;exact ih c hc
  · rw [List.dropWhile_cons,if_neg hx] at hc
    have:x=c:=by simpa using hc
    subst this;simpa using hx
theorem takeD_all (l:List UInt8):∀c∈l.takeWhile isD,isD c=true:=by
 induction l with
 |nil=>intro c hc;simp at hc
 |cons x l ih=>
  intro c hc
  by_cases hx:isD x=true
  · rw [List.takeWhile_cons,if_pos hx] at hc
    rcases List.mem_cons.1 hc with rfl|hc
    · exact hx
    · exact ih c hc
  · rw [List.takeWhile_cons,if_neg hx] at hc;simp at hc
theorem vHi {most:Nat} {l r:List UInt8} {n:Nat} (h:numF most l=some (n,r)):n≤most∧l=decDigits n++r∧noD r:=by
 unfold numF at h
 split at h
 · cases h
 · rename_i h1
   split at h
   · cases h
   · rename_i h2
     split at h
     · cases h
     · rename_i h3
       simp only [Option.some.injEq,Prod.mk.injEq] at h;obtain ⟨rfl,rfl⟩:=h
       have hok:okD (l.takeWhile isD):=⟨h1,fun e=>by
        have h0:(l.takeWhile isD).length≠0:=fun e=>h1 (List.eq_nil_of_length_eq_zero e)
        have:¬1<(l.takeWhile isD).length:=fun e2=>h2 ⟨e,e2⟩
        omega⟩
       rw [dec_of hok (takeD_all l),List.takeWhile_append_dropWhile];exact ⟨by omega,rfl,dropD_no l⟩
theorem numF_dec {most n:Nat} {r:List UInt8} (h:n≤most) (hr:noD r):numF most (decDigits n++r)=some (n,r):=by
 obtain ⟨e1,e2⟩:=takeD_app (decDigits n) r (vBv n) hr;unfold numF;rw [e1,e2,vGm,if_neg (vHj n),if_neg (fun hh=>by have:=(ok_dec n).2 hh.1;omega),if_neg (by omega)]
theorem numF_iff {most n:Nat} {l r:List UInt8}:numF most l=some (n,r)↔n≤most∧l=decDigits n++r∧noD r:=
 ⟨vHi,fun ⟨h1,h2,h3⟩=>by rw [h2];exact numF_dec h1 h3⟩
theorem vFk {l:List UInt8} {k:Nat} (hk:k<l.length):l.take (k+1)=l.take k++[l.getD k 0]:=by
 rw [List.take_succ_eq_append_getElem hk];simp [List.getD,List.getElem?_eq_getElem hk]
theorem take_digits {l:List UInt8} {k:Nat} (hk:k<l.length) (hD:∀c∈l.take k,isD c=true) (hc:isD (l.getD k 0)=true):∀c∈l.take (k+1),isD c=true:=by
 rw [vFk hk];intro c hc2
 rcases List.mem_append.1 hc2 with h|h
 · exact hD c h
 · rw [List.mem_singleton.1 h];exact hc
open Go.Lib (decDigits nDigits)
def txt (a:Nat):List UInt8:=decDigits (a / 16777216)++46 :: (decDigits (a / 65536 % 256)++46 :: (decDigits (a / 256 % 256)++46 :: decDigits (a % 256)))
def rdStep (i:Nat) (p:Nat×List UInt8):Option (Nat×List UInt8):=
 if 0<i then
  match p.2 with
  |46 :: r=>(numF 255 r).map fun q=>(p.1 * 256+q.1,q.2)
  |_=>none
 else (numF 255 p.2).map fun q=>(p.1 * 256+q.1,q.2)
def rdSt (l:List UInt8):Nat→Option (Nat×List UInt8)
 |0=>some (0,l)
 |i+1=>(rdSt l i).bind (rdStep i)
def rdF (l:List UInt8):Option Nat:=
 match rdSt l 4 with
 |some (a,[])=>some a
 |_=>none
theorem vIk {p q:Nat×List UInt8}:rdStep 0 p=some q↔∃n,n≤255∧p.2=decDigits n++q.2∧noD q.2∧q.1=p.1 * 256+n:=by
 unfold rdStep;rw [if_neg (by omega),Option.map_eq_some_iff]
 constructor
 · rintro ⟨⟨n,r⟩,h,rfl⟩
   obtain ⟨h1,h2,h3⟩:=vHi h;exact ⟨n,h1,h2,h3,rfl⟩
 · rintro ⟨n,h1,h2,h3,h4⟩
   refine ⟨(n,q.2),numF_iff.2 ⟨h1,h2,h3⟩,?_⟩;rw [←h4]
theorem vCq {i:Nat} (hi:0<i) {p q:Nat×List UInt8}:rdStep i p=some q↔∃n,n≤255∧p.2=46 :: (decDigits n++q.2)∧noD q.2∧q.1=p.1 * 256+n:=by
 unfold rdStep;rw [if_pos hi]
 constructor
 · intro h
   split at h
   · rename_i r hr
     obtain ⟨⟨n,b⟩,h1,rfl⟩:=Option.map_eq_some_iff.1 h;obtain ⟨h1,h2,h3⟩:=vHi h1;exact ⟨n,h1,by rw [hr,h2],h3,rfl⟩
   · cases h
 · rintro ⟨n,h1,h2,h3,h4⟩
   rw [h2];simp only [Option.map_eq_some_iff];refine ⟨(n,q.2),numF_iff.2 ⟨h1,rfl,h3⟩,?_⟩;rw [←h4]
theorem noD_nil:noD []:=fun c h=>by simp at h
theorem noD_dot (r:List UInt8):noD (46 :: r):=fun c h=>by
 have:(46:UInt8)=c:=by simpa using h
 subst this
 rfl
theorem rdF_some {l:List UInt8} {a:Nat} (h:rdF l=some a):a<4294967296∧l=txt a:=by
 unfold rdF at h
 split at h
 · rename_i a0 hs
   have ea:a0=a:=Option.some.inj h;subst ea;simp only [rdSt,Option.bind_some,Option.bind_eq_some_iff] at hs;obtain ⟨p3,⟨p2,⟨p1,h1,h2⟩,h3⟩,h4⟩:=hs;obtain ⟨n1,b1,e1,_,v1⟩:=vIk.1 h1;obtain ⟨n2,b2,e2,_,v2⟩:=(vCq (by omega)).1 h2;obtain ⟨n3,b3,e3,_,v3⟩:=(vCq (by omega)).1 h3;obtain ⟨n4,b4,e4,_,v4⟩:=(vCq (by omega)).1 h4;simp only at e1 v1 e4 v4;rw [List.append_nil] at e4
   refine ⟨by omega,?_⟩;rw [e1,e2,e3,e4];unfold txt;rw [show a0 / 16777216=n1 by omega,show a0 / 65536 % 256=n2 by omega,show a0 / 256 % 256=n3 by omega,show a0 % 256=n4 by omega]
 · cases h
theorem rdF_txt (a:Nat) (h:a<4294967296):rdF (txt a)=some a:=by
 have h1:rdSt (txt a) 4=some (a,[]):=by
  simp only [rdSt,Option.bind_some]
  rw [(vIk (q:=(_,_))).2 ⟨a / 16777216,by omega,rfl,noD_dot _,rfl⟩,Option.bind_some,(vCq (q:=(_,_)) (by omega)).2 ⟨a / 65536 % 256,by omega,rfl,noD_dot _,rfl⟩,Option.bind_some,
   (vCq (q:=(_,_)) (by omega)).2 ⟨a / 256 % 256,by omega,rfl,noD_dot _,rfl⟩,Option.bind_some,(vCq (q:=(_,[])) (by omega)).2 ⟨a % 256,by omega,by simp,noD_nil,rfl⟩]
  simp;omega
 simp [rdF,h1]
theorem rdF_iff {l:List UInt8} {a:Nat}:rdF l=some a↔a<4294967296∧l=txt a:=
 ⟨rdF_some,fun ⟨h1,h2⟩=>by rw [h2];exact rdF_txt a h1⟩
def vHh (p:List UInt8):Nat:=if p.length=0∨3<p.length then 1000 else if p.all isD=true then (if decDigits (vGs p)=p then vGs p else 1000) else 1000
theorem digF_le (p:List UInt8) (h:vHh p≠1000):p=decDigits (vHh p):=by
 unfold vHh at h ⊢
 split at h
 · exact absurd rfl h
 · split at h
   · split at h
     · rename_i h1 h2 h3
       rw [if_neg h1,if_pos h2,if_pos h3,h3]
     · exact absurd rfl h
   · exact absurd rfl h
theorem digF_dec (n:Nat) (h:n<1000):vHh (decDigits n)=n:=by
 have h1:¬((decDigits n).length=0∨3<(decDigits n).length):=by
  have:=vGp 3 (by omega) h
  have:=vHj n
  intro hh
  rcases hh with hh|hh
  · exact this (List.eq_nil_of_length_eq_zero hh)
  · omega
 have h2:(decDigits n).all isD=true:=List.all_eq_true.2 (vBv n);unfold vHh;rw [if_neg h1,if_pos h2,vGm,if_pos rfl]
def vDu:List UInt8→Nat→Nat→List UInt8→Option Nat
 | [],a,dots,part=>if 255<vHh part∨3<dots then none else if dots+1=4 then some (a * 256+vHh part) else none
 |c :: r,a,dots,part=>
  if c=46 then (if 255<vHh part∨3<dots then none else vDu r (a * 256+vHh part) (dots+1) [])
  else if 3<part.length+1 then none else vDu r a dots (part++[c])
def refF (l:List UInt8):Option Nat:=vDu l 0 0 []
theorem refGo_part (q r:List UInt8) (a dots:Nat) (part:List UInt8) (hq:∀c∈q,isD c=true) (hl:part.length+q.length≤3):vDu (q++r) a dots part=vDu r a dots (part++q):=by
 induction q generalizing part with
 |nil=>simp
 |cons c q ih=>
  have hc:c≠46:=by
   intro e;subst e
   have:=hq 46 (by simp)
   exact absurd this (by decide)
  simp only [List.length_cons] at hl;rw [List.cons_append,vDu,if_neg hc,if_neg (by omega),ih (part++[c]) (fun x hx=>hq x (by simp [hx])) (by simp;omega)];simp
theorem refGo_dec (n:Nat) (hn:n≤255) (r:List UInt8) (a dots:Nat):vDu (decDigits n++r) a dots []=vDu r a dots (decDigits n):=by
 rw [refGo_part _ _ _ _ _ (vBv n) (by have:=vGp (u:=n) 3 (by omega) (by omega);simpa using this)]
 rfl
theorem refGo_end (n a:Nat) (hn:n≤255):vDu (decDigits n) a 3 []=some (a * 256+n):=by
 have h:=refGo_dec n hn [] a 3;rw [List.append_nil] at h;rw [h,vDu,digF_dec n (by omega),if_neg (by omega),if_pos (by omega)]
theorem refGo_num (n a dots:Nat) (r:List UInt8) (hn:n≤255) (hd:dots≤3):vDu (decDigits n++46 :: r) a dots []=vDu r (a * 256+n) (dots+1) []:=by
 rw [refGo_dec n hn,vDu,if_pos rfl,digF_dec n (by omega),if_neg (by omega)]
theorem refF_txt (a:Nat) (h:a<4294967296):refF (txt a)=some a:=by
 unfold refF txt;rw [refGo_num _ _ _ _ (by omega) (by omega),refGo_num _ _ _ _ (by omega) (by omega),refGo_num _ _ _ _ (by omega) (by omega),refGo_end _ _ (by omega)];congr 1;omega
def join:List Nat→List UInt8
 | []=>[]
 | [n]=>decDigits n
 |n :: m :: r=>decDigits n++46 :: join (m :: r)
theorem refGo_some {l:List UInt8} {a dots:Nat} {part:List UInt8} {x:Nat} (h:vDu l a dots part=some x):
 ∃n r,n≤255∧(∀m∈r,m≤255)∧part++l=join (n :: r)∧dots+(r.length+1)=4∧x=(n :: r).foldl (fun a n=>a * 256+n) a:=by
 induction l generalizing a dots part with
 |nil=>
  rw [vDu] at h
  split at h
  · cases h
  · rename_i h1
    split at h
    · rename_i h2
      refine ⟨vHh part,[],by omega,fun m hm=>by simp at hm,?_,by simp;omega,(Option.some.inj h).symm⟩;rw [List.append_nil];exact digF_le part (by omega)
    · cases h
 |cons c l ih=>
  rw [vDu] at h
  split at h
  · rename_i hc
    subst hc
    split at h
    · cases h
    · rename_i h1
      obtain ⟨n,r,h2,h3,h4,h5,h6⟩:=ih h;refine ⟨vHh part,n :: r,by omega,fun m hm=>?_,?_,by simp only [List.length_cons];omega,by rw [h6];simp only [List.foldl_cons]⟩
      · rcases List.mem_cons.1 hm with rfl|hm
        · exact h2
        · exact h3 m hm
      · rw [join,←h4,←digF_le part (by omega)]
        rfl
  · split at h
    · cases h
    · obtain ⟨n,r,h2,h3,h4,h5,h6⟩:=ih h
      exact ⟨n,r,h2,h3,by rw [←h4];simp,h5,h6⟩
theorem three (r:List Nat) (h:r.length=3):∃a b c,r=[a,b,c]:=by
 cases r with
 |nil=>simp at h
 |cons a r=>
  cases r with
  |nil=>simp at h
  |cons b r=>
   cases r with
   |nil=>simp at h
   |cons c r=>
    cases r with
    |nil=>exact ⟨a,b,c,rfl⟩
    |cons d r=>simp at h
theorem refF_some {l:List UInt8} {a:Nat} (h:refF l=some a):a<4294967296∧l=txt a:=by
 obtain ⟨n,r,h2,h3,h4,h5,h6⟩:=refGo_some h;obtain ⟨n2,n3,n4,rfl⟩:=three r (by omega);have b2:=h3 n2 (by simp);have b3:=h3 n3 (by simp);have b4:=h3 n4 (by simp);simp only [List.foldl_cons,List.foldl_nil] at h6;refine ⟨by omega,?_⟩;rw [List.nil_append] at h4;rw [h4];simp only [join];unfold txt;rw [show a / 16777216=n by omega,show a / 65536 % 256=n2 by omega,show a / 256 % 256=n3 by omega,show a % 256=n4 by omega]
theorem refF_eq (l:List UInt8):refF l=rdF l:=by
 cases h:rdF l with
 |some a=>
  obtain ⟨h1,rfl⟩:=rdF_some h;exact refF_txt a h1
 |none=>
  cases h2:refF l with
  |none=>rfl
  |some b=>
   obtain ⟨h1,rfl⟩:=refF_some h2;rw [rdF_txt b h1] at h
   cases h
def headS (l:List UInt8):List UInt8:=l.takeWhile (fun c=>c != 47)
def tailS (l:List UInt8):List UInt8:=(l.dropWhile (fun c=>c != 47)).drop 1
def pfF (l:List UInt8):Option (Nat×Nat):=
 match rdF (headS l),numF 32 (tailS l) with
 |some a,some (b,[])=>some (a,b)
 |_,_=>none
def ptxt (a b:Nat):List UInt8:=txt a++47 :: decDigits b
theorem noSlash_txt (a:Nat):∀c∈txt a,(c != 47)=true:=by
 have hd:∀u,∀c∈decDigits u,(c != 47)=true:=fun u c hc=>by
  have:=(vEv c).1 (vBv u c hc)
  have h:c≠47:=by
   intro e;subst e;exact absurd this.1 (by decide)
  simpa using h
 intro c hc;unfold txt at hc;simp only [List.mem_append,List.mem_cons] at hc
 rcases hc with hc|rfl|hc|rfl|hc|rfl|hc
 · exact hd _ c hc
 · rfl
 · exact hd _ c hc
 · rfl
 · exact hd _ c hc
 · rfl
 · exact hd _ c hc
theorem cut_app (d r:List UInt8) (hd:∀c∈d,(c != 47)=true):headS (d++47 :: r)=d∧tailS (d++47 :: r)=r:=by
 unfold headS tailS
 induction d with
 |nil=>simp
 |cons x d ih=>
  have hx:=hd x (by simp);obtain ⟨i1,i2⟩:=ih (fun c hc=>hd c (by simp [hc]));simp only [List.cons_append,List.takeWhile_cons,List.dropWhile_cons,hx,if_true,i1,i2,and_self]
theorem numF_nil (m:Nat):numF m []=none:=by simp [numF]
theorem cut_all (l:List UInt8):(47∈l∧l=headS l++47 :: tailS l)∨(47∉l∧headS l=l∧tailS l=[]):=by
 unfold headS tailS
 induction l with
 |nil=>right;simp
 |cons x l ih=>
  by_cases hx:x=47
  · left;subst hx;simp
  · have h1:(x != 47)=true:=by simpa using hx
    rcases ih with ⟨h2,h3⟩|⟨h2,h3,h4⟩
    · left
      refine ⟨by simp [h2],?_⟩;simp only [List.takeWhile_cons,List.dropWhile_cons,h1,if_true,List.cons_append];rw [←h3]
    · right
      refine ⟨by simp [h2,Ne.symm hx],?_,?_⟩
      · simp only [List.takeWhile_cons,h1,if_true,h3]
      · simp only [List.dropWhile_cons,h1,if_true,h4]
theorem pfF_iff {l:List UInt8} {a b:Nat}:pfF l=some (a,b)↔a<4294967296∧b≤32∧l=ptxt a b:=by
 constructor
 · intro h
   unfold pfF at h
   split at h
   · rename_i a0 b0 h1 h2
     have he:(a0,b0)=(a,b):=Option.some.inj h;simp only [Prod.mk.injEq] at he;obtain ⟨rfl,rfl⟩:=he;obtain ⟨h3,h4⟩:=rdF_some h1;obtain ⟨h5,h6,_⟩:=vHi h2
     rcases cut_all l with ⟨_,hl⟩|⟨_,_,hl⟩
     · refine ⟨h3,h5,?_⟩
       rw [hl,h4,h6,List.append_nil]
       rfl
     · rw [hl,numF_nil] at h2
       cases h2
   · cases h
 · rintro ⟨h1,h2,rfl⟩
   obtain ⟨e1,e2⟩:=cut_app (txt a) (decDigits b) (noSlash_txt a);unfold pfF ptxt;rw [e1,e2,rdF_txt a h1]
   have:=numF_dec (r:=[]) h2 noD_nil
   rw [List.append_nil] at this;rw [this]
open Go.Lib (decDigits nDigits itoa atoiAll atoi decNat decFrom)
def vDf (l:List UInt8):List UInt8:=if l.head?=some 45 then l.tail else l
theorem trimM_minus (r:List UInt8):vDf (45 :: r)=r:=by simp [vDf]
theorem trimM_other (l:List UInt8) (h:l.head?≠some 45):vDf l=l:=by unfold vDf;rw [if_neg h]
theorem vFt (u:Nat):itoa (u:Int)=decDigits u:=by unfold itoa;rw [if_neg (by omega)];simp
theorem itoa_min (u:Nat) (h:1≤u):itoa (-(u:Int))=45 :: decDigits u:=by unfold itoa;rw [if_pos (by omega)];simp
theorem isD_45:isD 45=false:=by decide
theorem dec_head45 (u:Nat):(decDigits u).head?≠some 45:=by
 intro h
 cases hd:decDigits u with
 |nil=>exact vHj u hd
 |cons x r=>
  rw [hd] at h
  have hx:x=45:=by simpa using h
  have:=vBv u x (by rw [hd];simp)
  rw [hx,isD_45] at this
  cases this
theorem int_cases (n:Int):(∃u:Nat,n=(u:Int))∨∃u:Nat,1≤u∧n= -(u:Int):=by
 by_cases h:n<0
 · exact .inr ⟨n.natAbs,by omega,by omega⟩
 · exact .inl ⟨n.toNat,by omega⟩
theorem vDr (n:Int):vDf (itoa n)=decDigits n.natAbs:=by
 rcases int_cases n with ⟨u,rfl⟩|⟨u,h,rfl⟩
 · rw [vFt,trimM_other _ (dec_head45 u)];simp
 · rw [itoa_min u h,trimM_minus];simp
theorem vGz (n:Int):(itoa n).head?=some 45↔n<0:=by
 rcases int_cases n with ⟨u,rfl⟩|⟨u,h,rfl⟩
 · rw [vFt];exact ⟨fun h=>absurd h (dec_head45 u),fun h=>by omega⟩
 · rw [itoa_min u h];exact ⟨fun _=>by omega,fun _=>rfl⟩
theorem itoa_inj {a b:Int} (h:itoa a=itoa b):a=b:=by
 have h1:=(vGz a);have h2:=(vGz b);have h3:=vDr a;rw [h,vDr b] at h3;have h4:=dec_inj h3;rw [h] at h1;have h5:a<0↔b<0:=h1.symm.trans h2;omega
theorem decFrom_all (l:List UInt8):∀(acc:Nat),(∀c∈l,isD c=true)→decFrom acc l=some (l.foldl (fun n c=>n * 10+(c.toNat - 48)) acc):=by
 induction l with
 |nil=>intro acc _;rfl
 |cons c r ih=>
  intro acc h;have hc:=(vEv c).1 (h c (by simp))
  have hd:Go.Lib.digitVal c=some (c.toNat - 48):=by unfold Go.Lib.digitVal;rw [if_pos hc]
  simp only [decFrom,hd,List.foldl_cons];exact ih _ (fun x hx=>h x (by simp [hx]))
theorem decNat_all (l:List UInt8) (h0:l≠[]) (h:∀c∈l,isD c=true):decNat l=some (vGs l):=by
 unfold decNat
 have:l.isEmpty=false:=by simpa using h0
 rw [this];simp only [Bool.false_eq_true,if_false];exact decFrom_all l 0 h
theorem atoi_itoa (n:Int):atoi (itoa n)=some n:=by
 rcases int_cases n with ⟨u,rfl⟩|⟨u,h,rfl⟩
 · rw [vFt]
   have hn:=decNat_all _ (vHj u) (vBv u);rw [vGm] at hn
   cases hd:decDigits u with
   |nil=>exact absurd hd (vHj u)
   |cons x r=>
    have hx:=(vEv x).1 (vBv u x (by rw [hd];simp))
    have h1:(x == 45)=false:=by
     rw [beq_eq_false_iff_ne];intro e;subst e;revert hx;decide
    have h2:(x == 43)=false:=by
     rw [beq_eq_false_iff_ne];intro e;subst e;revert hx;decide
    rw [hd] at hn;simp only [atoi,h1,h2,Bool.false_eq_true,if_false,hn]
    rfl
 · rw [itoa_min u h]
   have hn:=decNat_all _ (vHj u) (vBv u);rw [vGm] at hn;simp [atoi,hn]
theorem trim_len (l:List UInt8):l.length≤(vDf l).length+1:=by
 unfold vDf
 split
 · simp;omega
 · omega
theorem atoiAll_itoa (n:Int) (h:(vDf (itoa n)).length≤10):atoiAll (itoa n)=.ok n:=by
 rw [Go.Lib.atoiAll_short _ (by have:=trim_len (itoa n);omega),atoi_itoa]
 rfl
def nF (l:List UInt8) (lo hi:Int):Option Int:=
 if 10<(vDf l).length then none
 else match atoiAll l with
  | .ok n=>if lo≤n∧n≤hi∧itoa n=l then some n else none
  |_=>none
theorem vHa {l:List UInt8} {lo hi n:Int}:nF l lo hi=some n↔itoa n=l∧(vDf l).length≤10∧lo≤n∧n≤hi:=by
 unfold nF
 by_cases h:10<(vDf l).length
 · rw [if_pos h]
   exact ⟨(fun e=>by cases e),fun e=>by omega⟩
 · rw [if_neg h]
   constructor
   · intro e
     split at e
     · rename_i m hm
       split at e
       · rename_i hc
         obtain rfl:m=n:=by simpa using e
         exact ⟨hc.2.2,by omega,hc.1,hc.2.1⟩
       · cases e
     · cases e
   · rintro ⟨rfl,h1,h2,h3⟩
     rw [atoiAll_itoa n h1];simp only;rw [if_pos ⟨h2,h3,trivial⟩]
theorem opt_eq {α:Type} {a b:Option α} (h:∀x,a=some x↔b=some x):a=b:=by
 cases a with
 |none=>
  cases b with
  |none=>rfl
  |some y=>exact absurd ((h y).2 rfl) (by simp)
 |some x=>exact ((h x).1 rfl).symm
def rN (l:List UInt8):Int:=if l.head?=some 45 then -(vGs (vDf l):Int) else (vGs (vDf l):Int)
theorem nF_ref {l:List UInt8} {lo hi:Int} (h1:1≤(vDf l).length) (h2:(vDf l).length≤10) (h3:∀c∈vDf l,isD c=true):
 nF l lo hi=if lo≤rN l∧rN l≤hi∧itoa (rN l)=l then some (rN l) else none:=by
 refine opt_eq fun n=>?_
 rw [vHa]
 have key:itoa n=l→rN l=n:=by
  rintro rfl;unfold rN;rw [vDr,vGm]
  by_cases hn:n<0
  · rw [if_pos ((vGz n).2 hn)];omega
  · rw [if_neg (fun e=>hn ((vGz n).1 e))];omega
 constructor
 · rintro ⟨e,_,g1,g2⟩
   rw [key e,if_pos ⟨g1,g2,e⟩]
 · intro e
   split at e
   · rename_i hc
     have e2:rN l=n:=by simpa using e
     rw [e2] at hc;exact ⟨hc.2.2,h2,hc.1,hc.2.1⟩
   · cases e
theorem vEw {l:List UInt8} {lo hi:Int} (h:(vDf l).length<1∨10<(vDf l).length):nF l lo hi=none:=by
 rcases hx:nF l lo hi with _|n
 · rfl
 · obtain ⟨e,h1,_⟩:=vHa.1 hx
   subst e;rw [vDr] at h h1
   have:(decDigits n.natAbs).length≠0:=fun e=>vHj _ (List.eq_nil_of_length_eq_zero e)
   omega
theorem vDl {l:List UInt8} {lo hi:Int} {c:UInt8} (hc:c∈vDf l) (h:isD c=false):nF l lo hi=none:=by
 rcases hx:nF l lo hi with _|n
 · rfl
 · obtain ⟨e,h1,_⟩:=vHa.1 hx
   subst e;rw [vDr] at hc;rw [vBv _ c hc] at h
   cases h
theorem nF_back (n lo hi:Int) (h:n.natAbs<10000000000):nF (itoa n) lo hi=if lo≤n∧n≤hi then some n else none:=by
 refine opt_eq fun m=>?_
 rw [vHa]
 constructor
 · rintro ⟨e,_,g1,g2⟩
   obtain rfl:=itoa_inj e;rw [if_pos ⟨g1,g2⟩]
 · intro e
   split at e
   · rename_i hc
     obtain rfl:n=m:=by simpa using e
     exact ⟨rfl,by rw [vDr];exact vGp 10 (by omega) (by omega),hc.1,hc.2⟩
   · cases e
theorem itoa_len (n:Int) (h0: -9223372036854775808≤n) (h1:n≤9223372036854775807):(itoa n).length≤20:=by
 have h:=trim_len (itoa n);rw [vDr] at h;have h2:(decDigits n.natAbs).length≤19:=vGp 19 (by omega) (show n.natAbs<10000000000000000000 by omega);omega
def vAh:List UInt8→List (List UInt8)
 | []=>[[]]
 |c :: r=>if c=44 then [] :: vAh r else match vAh r with
  |h :: t=>(c :: h) :: t
  | []=>[[c]]
theorem vFg (l:List UInt8):vAh l≠[]:=by
 cases l with
 |nil=>simp [vAh]
 |cons c r=>
  simp only [vAh]
  split
  · simp
  · split<;>simp
theorem vBy (r:List UInt8):vAh (44 :: r)=[] :: vAh r:=by simp [vAh]
theorem vBp (c:UInt8) (r h:List UInt8) (t:List (List UInt8)) (hc:c≠44) (hr:vAh r=h :: t):vAh (c :: r)=(c :: h) :: t:=by
 simp [vAh,hc,hr]
theorem splitC_one (l:List UInt8) (h:(44:UInt8)∉l):vAh l=[l]:=by
 induction l with
 |nil=>rfl
 |cons c r ih=>
  simp only [List.mem_cons,not_or] at h;exact vBp c r r [] (Ne.symm h.1) (ih h.2)
theorem splitC_app (a b:List UInt8):vAh (a++44 :: b)=vAh a++vAh b:=by
 induction a with
 |nil=>rw [List.nil_append,vBy];rfl
 |cons c r ih=>
  by_cases hc:c=44
  · subst hc
    rw [List.cons_append,vBy,ih,vBy];rfl
  · cases hr:vAh r with
    |nil=>exact absurd hr (vFg r)
    |cons h t=>
     rw [List.cons_append,vBp c _ h (t++vAh b) hc (by rw [ih,hr];rfl),vBp c r h t hc hr];rfl
def lastC (c:UInt8) (ps:List (List UInt8)):List (List UInt8):=ps.dropLast++[ps.getLastD []++[c]]
theorem vIc (l:List UInt8):vAh (l++[44])=vAh l++[[]]:=splitC_app l []
theorem vHx (l:List UInt8) (c:UInt8) (hc:c≠44):vAh (l++[c])=lastC c (vAh l):=by
 induction l with
 |nil=>simp [vAh,hc,lastC]
 |cons x r ih=>
  cases hr:vAh r with
  |nil=>exact absurd hr (vFg r)
  |cons h t=>
   rw [hr] at ih
   by_cases hx:x=44
   · subst hx
     rw [List.cons_append,vBy,vBy,ih,hr];simp [lastC]
   · cases t with
     |nil=>
      have i2:vAh (r++[c])=[h++[c]]:=by rw [ih];simp [lastC]
      rw [List.cons_append,vBp x _ _ _ hx i2,vBp x _ _ _ hx hr];simp [lastC]
     |cons h2 t2=>
      have i2:vAh (r++[c])=h :: (lastC c (h2 :: t2)):=by rw [ih];simp [lastC]
      rw [List.cons_append,vBp x _ _ _ hx i2,vBp x _ _ _ hx hr];simp [lastC]
def vBr (rd:List UInt8→Option Int):List (List UInt8)→Option (List Int)
 | []=>some []
 |a :: r=>(rd a).bind fun x=>(vBr rd r).map (x :: ·)
theorem allRd_app (rd:List UInt8→Option Int) (a b:List (List UInt8)):vBr rd (a++b)=(vBr rd a).bind fun xs=>(vBr rd b).map (xs++·):=by
 induction a with
 |nil=>simp [vBr]
 |cons x r ih=>
  simp only [List.cons_append,vBr,ih]
  cases rd x with
  |none=>rfl
  |some v=>
   simp only [Option.bind_some]
   cases vBr rd r with
   |none=>rfl
   |some ys=>
    simp only [Option.bind_some,Option.map_some]
    cases vBr rd b with
    |none=>rfl
    |some zs=>rfl
theorem allRd_len {rd:List UInt8→Option Int} {a:List (List UInt8)} {xs:List Int} (h:vBr rd a=some xs):xs.length=a.length:=by
 induction a generalizing xs with
 |nil=>have:xs=[]:=by simpa [vBr] using h.symm
       rw [this];rfl
 |cons x r ih=>
  simp only [vBr,Option.bind_eq_some_iff,Option.map_eq_some_iff] at h;obtain ⟨v,_,ys,h2,rfl⟩:=h;simp [ih h2]
theorem allRd_snoc {rd:List UInt8→Option Int} {a:List (List UInt8)} {xs:List Int} {p:List UInt8} {v:Int} (h:vBr rd a=some xs) (hp:rd p=some v):vBr rd (a++[p])=some (xs++[v]):=by
 rw [allRd_app,h];simp [vBr,hp]
theorem allRd_no {rd:List UInt8→Option Int} {a b:List (List UInt8)} {p:List UInt8} (hp:rd p=none):vBr rd (a++p :: b)=none:=by
 rw [allRd_app];simp [vBr,hp]
theorem allRd_map {rd:List UInt8→Option Int} (f:Int→List UInt8) (xs:List Int) (h:∀x∈xs,rd (f x)=some x):vBr rd (xs.map f)=some xs:=by
 induction xs with
 |nil=>rfl
 |cons x r ih=>simp [vBr,h x (by simp),ih (fun y hy=>h y (by simp [hy]))]
theorem allRd_all {rd:List UInt8→Option Int} {a:List (List UInt8)} {xs:List Int} (h:vBr rd a=some xs):∀x∈xs,∃p,rd p=some x:=by
 induction a generalizing xs with
 |nil=>have:xs=[]:=by simpa [vBr] using h.symm
       subst this;intro x hx;cases hx
 |cons p r ih=>
  simp only [vBr,Option.bind_eq_some_iff,Option.map_eq_some_iff] at h;obtain ⟨v,h1,ys,h2,rfl⟩:=h;intro x hx
  rcases List.mem_cons.1 hx with rfl|hx
  · exact ⟨p,h1⟩
  · exact ih h2 x hx
def upB:List Int→Bool
 | []=>true
 | [_]=>true
 |a :: b :: r=>decide (a<b) && upB (b :: r)
def Up (xs:List Int) (k:Nat):Prop:=∀i,0<i→i<k→xs.getD (i - 1) 0<xs.getD i 0
theorem Up.one (xs:List Int):Up xs 1:=fun i h0 h1=>by omega
theorem Up.zero (xs:List Int):Up xs 0:=fun i h0 h1=>by omega
theorem Up.next {xs:List Int} {k:Nat} (h:Up xs k) (hk:xs.getD (k - 1) 0<xs.getD k 0):Up xs (k+1):=fun i h0 h1=>by
 by_cases e:i=k
 · subst e;exact hk
 · exact h i h0 (by omega)
theorem Up.less {xs:List Int} {k j:Nat} (h:Up xs k) (hj:j≤k):Up xs j:=fun i h0 h1=>h i h0 (by omega)
theorem upB_iff (xs:List Int):upB xs=true↔Up xs xs.length:=by
 induction xs with
 |nil=>exact ⟨fun _=>Up.zero _,fun _=>rfl⟩
 |cons a r ih=>
  cases r with
  |nil=>exact ⟨fun _=>Up.one _,fun _=>rfl⟩
  |cons b r=>
   simp only [upB,Bool.and_eq_true,decide_eq_true_eq]
   constructor
   · rintro ⟨h1,h2⟩ i h0 hi
     have h3:=ih.1 h2
     rcases i with _|i
     · omega
     · rcases i with _|i
       · simpa using h1
       · have:=h3 (i+1) (by omega) (by simpa using hi)
         simpa using this
   · intro h
     refine ⟨by simpa using h 1 (by omega) (by simp),ih.2 fun i h0 hi=>?_⟩
     have:=h (i+1) (by omega) (by simpa using hi)
     rcases i with _|i
     · omega
     · simpa using this
def risB (xs:List Int):Bool:=decide (1≤xs.length) && decide (xs.length≤16) && upB xs
theorem vCd (xs:List Int):risB xs=true↔1≤xs.length∧xs.length≤16∧Up xs xs.length:=by
 unfold risB;rw [Bool.and_eq_true,Bool.and_eq_true,upB_iff,decide_eq_true_eq,decide_eq_true_eq,and_assoc]
theorem risB_no (xs:List Int) (h:xs.length<1∨16<xs.length):risB xs=false:=by
 cases hx:risB xs with
 |false=>rfl
 |true=>have:=(vCd xs).1 hx;omega
theorem risB_down {xs:List Int} {k:Nat} (h0:0<k) (hk:k<xs.length) (h:xs.getD k 0≤xs.getD (k - 1) 0):risB xs=false:=by
 cases hx:risB xs with
 |false=>rfl
 |true=>have:=((vCd xs).1 hx).2.2 k h0 hk;omega
def inB (xs:List Int) (lo hi:Int):Bool:=xs.all fun x=>decide (lo≤x) && decide (x≤hi)
def vBs (xs:List Int) (lo hi:Int):Bool:=risB xs && inB xs lo hi
theorem Up.mono {xs:List Int} {n:Nat} (h:Up xs n):∀j i,i≤j→j<n→xs.getD i 0≤xs.getD j 0:=by
 intro j
 induction j with
 |zero=>intro i hi _;obtain rfl:i=0:=by omega
        omega
 |succ j ih=>
  intro i hi hj
  by_cases e:i=j+1
  · subst e;omega
  · have:=ih i (by omega) (by omega)
    have:=h (j+1) (by omega) hj
    rw [Nat.add_sub_cancel] at this;omega
theorem vGc {xs:List Int} {i:Nat} (h:i<xs.length):xs.getD i 0∈xs:=by
 rw [List.getD,List.getElem?_eq_getElem h];exact List.getElem_mem h
theorem mem_getD {xs:List Int} {x:Int} (h:x∈xs):∃i,i<xs.length∧xs.getD i 0=x:=by
 obtain ⟨i,hi,e⟩:=List.mem_iff_getElem.1 h;exact ⟨i,hi,by rw [List.getD,List.getElem?_eq_getElem hi];exact e⟩
theorem inB_iff (xs:List Int) (lo hi:Int):inB xs lo hi=true↔∀x∈xs,lo≤x∧x≤hi:=by
 unfold inB;rw [List.all_eq_true];exact ⟨fun h x hx=>by have:=h x hx;simpa using this,fun h x hx=>by have:=h x hx;simpa using this⟩
theorem risIn_ends (xs:List Int) (lo hi:Int) (h:risB xs=true):inB xs lo hi=(decide (lo≤xs.getD 0 0) && decide (xs.getD (xs.length - 1) 0≤hi)):=by
 obtain ⟨h1,h2,h3⟩:=(vCd xs).1 h;rw [Bool.eq_iff_iff,inB_iff,Bool.and_eq_true,decide_eq_true_eq,decide_eq_true_eq]
 constructor
 · intro g
   exact ⟨(g _ (vGc (by omega))).1,(g _ (vGc (by omega))).2⟩
 · rintro ⟨g1,g2⟩ x hx
   obtain ⟨i,hi',rfl⟩:=mem_getD hx
   have:=h3.mono i 0 (by omega) hi'
   have:=h3.mono (xs.length - 1) i (by omega) (by omega)
   omega
def rlF (rd:List UInt8→Option Int) (l:List UInt8):Option (List Int):=match vBr rd (vAh l) with
 |some xs=>if risB xs=true then some xs else none
 |none=>none
theorem rlF_none {rd:List UInt8→Option Int} {l:List UInt8} (h:vBr rd (vAh l)=none):rlF rd l=none:=by unfold rlF;rw [h]
theorem rlF_yes {rd:List UInt8→Option Int} {l:List UInt8} {xs:List Int} (h:vBr rd (vAh l)=some xs) (hr:risB xs=true):rlF rd l=some xs:=by
 unfold rlF;rw [h];simp only;rw [if_pos hr]
theorem rlF_no {rd:List UInt8→Option Int} {l:List UInt8} {xs:List Int} (h:vBr rd (vAh l)=some xs) (hr:risB xs=false):rlF rd l=none:=by
 unfold rlF;rw [h];simp only;rw [if_neg (by rw [hr];simp)]
theorem rlF_many {rd:List UInt8→Option Int} {l:List UInt8} (h:16<(vAh l).length):rlF rd l=none:=by
 rcases hx:vBr rd (vAh l) with _|xs
 · exact rlF_none hx
 · exact rlF_no hx (risB_no _ (.inr (by rw [allRd_len hx];exact h)))
def jnK (f:Int→List UInt8) (xs:List Int):Nat→List UInt8
 |0=>[]
 |k+1=>jnK f xs k++(if 0<k then [44] else [])++f (xs.getD k 0)
def jn (f:Int→List UInt8) (xs:List Int):List UInt8:=jnK f xs xs.length
theorem splitC_jnK {f:Int→List UInt8} {xs:List Int} (h:∀x,(44:UInt8)∉f x) (k:Nat) (hk:k+1≤xs.length):vAh (jnK f xs (k+1))=(xs.take (k+1)).map f:=by
 induction k with
 |zero=>
  have e:jnK f xs 1=f (xs.getD 0 0):=by simp [jnK]
  rw [e,splitC_one _ (h _)]
  cases xs with
  |nil=>simp at hk
  |cons x r=>simp
 |succ k ih=>
  have e:jnK f xs (k+1+1)=jnK f xs (k+1)++44 :: f (xs.getD (k+1) 0):=by
   conv=>lhs;unfold jnK
   rw [if_pos (by omega)];simp
  rw [e,splitC_app,ih (by omega),splitC_one _ (h _)];rw [List.take_succ_eq_append_getElem (show k+1<xs.length by omega),List.map_append];simp [List.getD,List.getElem?_eq_getElem (show k+1<xs.length by omega)]
theorem rlF_back {rd:List UInt8→Option Int} {f:Int→List UInt8} {xs:List Int} (hf:∀x,(44:UInt8)∉f x) (hr:∀x∈xs,rd (f x)=some x) (hx:risB xs=true):rlF rd (jn f xs)=some xs:=by
 obtain ⟨h1,h2,h3⟩:=(vCd xs).1 hx;refine rlF_yes ?_ hx;unfold jn;obtain ⟨k,hk⟩:∃k,xs.length=k+1:=⟨xs.length - 1,by omega⟩;rw [hk,splitC_jnK hf k (by omega),←hk,List.take_length];exact allRd_map f xs hr
theorem tb_high (n i:Nat) (hn:n≤32):(4294967295 - (2 ^ n - 1)).testBit i=(decide (n≤i) && decide (i<32)):=by
 have h1:2 ^ 32=2 ^ (32 - n) * 2 ^ n:=by rw [←Nat.pow_add,Nat.sub_add_cancel hn]
 have h0:1≤2 ^ n:=Nat.one_le_two_pow
 have h2:4294967295 - (2 ^ n - 1)=(2 ^ (32 - n) - 1) * 2 ^ n:=by
  rw [Nat.sub_mul,←h1];omega
 rw [h2,Nat.testBit_mul_two_pow,Nat.testBit_two_pow_sub_one]
 by_cases h:n≤i
 · simp only [h,decide_true,Bool.true_and]
   congr 1
   apply propext
   omega
 · simp [h]
theorem tb_cut (x n i:Nat):(x / 2 ^ n * 2 ^ n).testBit i=(decide (n≤i) && x.testBit i):=by
 rw [Nat.testBit_mul_two_pow]
 by_cases h:n≤i
 · simp only [h,decide_true,Bool.true_and]
   rw [Nat.testBit_div_two_pow,Nat.sub_add_cancel h]
 · simp [h]
theorem lt_tb {x:Nat} (hx:x<4294967296) (i:Nat) (hi:¬i<32):x.testBit i=false:=
 Nat.testBit_lt_two_pow (Nat.lt_of_lt_of_le (show x<2 ^ 32 from hx) (Nat.pow_le_pow_right (by decide) (by omega)))
theorem and_high (x n:Nat) (hx:x<4294967296) (hn:n≤32):x &&& (4294967295 - (2 ^ n - 1))=x / 2 ^ n * 2 ^ n:=by
 apply Nat.eq_of_testBit_eq
 intro i;rw [Nat.testBit_and,tb_high n i hn,tb_cut]
 by_cases h:i<32
 · simp [h,Bool.and_comm]
 · simp [lt_tb hx i h]
theorem or_low (x n:Nat):x |||(2 ^ n - 1)=x / 2 ^ n * 2 ^ n+(2 ^ n - 1):=by
 have h0:1≤2 ^ n:=Nat.one_le_two_pow;have e:=Nat.two_pow_add_eq_or_of_lt (i:=n) (b:=2 ^ n - 1) (by omega) (x / 2 ^ n);rw [Nat.mul_comm] at e;rw [e]
 apply Nat.eq_of_testBit_eq
 intro i;rw [Nat.testBit_or,Nat.testBit_or,tb_cut,Nat.testBit_two_pow_sub_one]
 by_cases h:n≤i
 · simp [h]
 · simp [h];intro _;omega
def sz (b:Nat):Nat:=2 ^ (32 - b)
theorem sz_pos (b:Nat):1≤sz b:=Nat.one_le_two_pow
theorem sz_le (b:Nat):sz b≤4294967296:=by
 have h:2 ^ (32 - b)≤2 ^ 32:=Nat.pow_le_pow_right (by decide) (Nat.sub_le 32 b);exact h
def fsN (a b:Nat):Nat:=a / sz b * sz b
def lsN (a b:Nat):Nat:=a / sz b * sz b+(sz b - 1)
theorem fsN_le (a b:Nat):fsN a b≤a:=Nat.div_mul_le_self a (sz b)
theorem lsN_ge (a b:Nat):a≤lsN a b:=by
 have h1:=Nat.div_add_mod a (sz b);have h2:=Nat.mod_lt a (sz_pos b);rw [Nat.mul_comm] at h1;unfold lsN;omega
theorem has_iff (a b x:Nat):x / sz b=a / sz b↔fsN a b≤x∧x≤lsN a b:=by
 have h0:=sz_pos b;unfold fsN lsN
 constructor
 · intro h
   rw [←h];exact ⟨fsN_le x b,lsN_ge x b⟩
 · rintro ⟨h1,h2⟩
   have h3:a / sz b≤x / sz b:=(Nat.le_div_iff_mul_le h0).2 h1
   have h4:x / sz b<a / sz b+1:=by
    rw [Nat.div_lt_iff_lt_mul h0,Nat.add_mul];omega
   omega
def RT (B:Int):Bool:=decide (0≤B∧B≤32)
def FS (A B:Int):Int:=if RT B=true then (fsN A.toNat B.toNat:Nat) else 0
def LS (A B:Int):Int:=if RT B=true then (lsN A.toNat B.toNat:Nat) else 0
def HS (A B x:Int):Bool:=RT B && decide (x.toNat / sz B.toNat=A.toNat / sz B.toNat)
theorem RT_iff (B:Int):RT B=true↔0≤B∧B≤32:=by simp [RT]
theorem RT_nat {B:Int} (h:RT B=true):∃b:Nat,B=(b:Int)∧b≤32:=by
 obtain ⟨h1,h2⟩:=(RT_iff B).1 h;exact ⟨B.toNat,by omega,by omega⟩
theorem free_eq (b:Nat) (h:b≤32):(4294967295:Int) / 2 ^ b=((sz b - 1:Nat):Int):=by
 have:∀i:Fin 33,(4294967295:Int) / 2 ^ i.val=((sz i.val - 1:Nat):Int):=by decide +kernel
 exact this ⟨b,by omega⟩
end Go.Proofs.YtgmflecelnefcaaGreat
