import Derived.Test.YtkpbbfehglihlaaGreatDoorDs25
import Derived.Test.YtkpbbfehglihlaaGreatDoorDs26
import Derived.Test.YtkpbbfehglihlaaGreatDoorDs50
set_option maxRecDepth 100000
set_option maxHeartbeats 40000000
namespace Go.Proofs.YtkpbbfehglihlaaGreatDoor
open Go.RowKit
def loW:Nat→Int
 |3|4|5|6|10|11=>1
 |_=>0
def hiW:Nat→Int
 |2|3|11=>65535
 |4|5|10=>4094
 |6=>16777215
 |_=>0
def optB (w:Nat):Bool:=decide (w=5) || decide (w=10) || decide (w=11)
def loneB (m:Int):Bool:=decide (m≤281474976710655) && (!Mac.grp m && !Mac.isHostB m)
def upA:Int→List Int→Bool
 |_,[]=>true
 |a,x :: r=>decide (a<x) && upA x r
def risA (xs:List Int):Bool:=upA 0 xs && (decide (1≤xs.length) && decide (xs.length≤16))
noncomputable def mayW:Nat→WV→Bool
 |0,V=>nmB V.text
 |1,V=>(V.text == vAt) || (V.text == vBd)
 |2,V=>decide (0≤V.n) && decide (V.n≤65535)
 |3,V=>decide (1≤V.n) && decide (V.n≤65535)
 |4,V=>decide (1≤V.n) && decide (V.n≤4094)
 |5,V=>decide (1≤V.n) && decide (V.n≤4094)
 |6,V=>decide (1≤V.n) && decide (V.n≤16777215)
 |7,V=>loneB V.mac
 |8,V=>!decide (V.addr=0)
 |9,V=>snB V.addr V.n
 |10,V=>vBy V.list 1 4094
 |11,V=>vBy V.list 1 65535
 |12,V=>risA V.addrs
 |_,_=>false
noncomputable def vCq (w:Nat) (V:WV):Bool:=if optB w=true∧V.n=0∧V.list=[] then true else mayW w V
def readB:Nat→List UInt8→Bool
 |0,_|1,_=>true
 |2,s=>nB s 0 65535
 |3,s=>nB s 1 65535
 |4,s=>nB s 1 4094
 |5,s=>nB s 1 4094
 |6,s=>nB s 1 16777215
 |7,s=>mcB s
 |8,s=>rdB s
 |9,s=>pfB s
 |10,s=>lsB (rdI 1 4094) s
 |11,s=>lsB (rdI 1 65535) s
 |12,s=>lsB rdA s
 |_,_=>false
def readV:Nat→List UInt8→WV
 |0,s=>{WV.zero with text:=s}
 |1,s=>{WV.zero with text:=s}
 |2,s=>{WV.zero with n:=nV s 0 65535}
 |3,s=>{WV.zero with n:=nV s 1 65535}
 |4,s=>{WV.zero with n:=nV s 1 4094}
 |5,s=>{WV.zero with n:=nV s 1 4094}
 |6,s=>{WV.zero with n:=nV s 1 16777215}
 |7,s=>{WV.zero with mac:=mcV s}
 |8,s=>{WV.zero with addr:=rdV s}
 |9,s=>{WV.zero with addr:=paV s,n:=pbV s}
 |10,s=>{WV.zero with list:=lsV (rdI 1 4094) s}
 |11,s=>{WV.zero with list:=lsV (rdI 1 65535) s}
 |12,s=>{WV.zero with addrs:=lsV rdA s}
 |_,_=>WV.zero
noncomputable def saidB (w:Nat) (s:List UInt8):Bool:=if s=dash then optB w else readB w s && vCq w (readV w s)
def refE (w:Nat):Int:=if w=0∨w=1 then 20 else 21
def pts (k:Int) (tg:Bool):List (Nat×Nat):=
 if k=1 then [(0,0),(2,6),(7,9)] else if k=2 then (if tg=true then [(0,0),(0,1),(3,8),(1,5),(5,7),(10,12)] else [(0,0),(0,1),(3,8),(1,5),(4,7)])
 else if k=3 then [(0,0),(0,1),(0,2),(0,3)] else if k=4 then [(0,0),(4,7),(7,9),(0,1)] else if k=5 then [(0,0),(8,10)] else if k=6 then [(0,0),(4,7),(6,6)]
 else if k=7 then [(0,0),(6,6),(12,15)] else if k=8 then [(0,0),(0,4),(11,13),(11,14)] else if k=9 then [(0,0),(4,7),(0,4),(9,11)] else []
def apB (L:LV):Bool:=decide (L.kind≠2) || ((decide (L.vlan≠0) || decide (0<L.tagged.length)) && !(L.tagged.any (fun x=>decide (x=L.vlan))))
theorem vBb {w:Nat} (h:optB w=false) (V:WV):vCq w V=mayW w V:=by
 unfold vCq;rw [if_neg];rintro ⟨h1,_⟩;rw [h] at h1
 cases h1
theorem may_list (w:Nat) (xs:List Int) (h:mayW w {WV.zero with list:=xs}=true):vCq w {WV.zero with list:=xs}=true:=by
 unfold vCq
 by_cases e:optB w=true∧({WV.zero with list:=xs}:WV).n=0∧({WV.zero with list:=xs}:WV).list=[]
 · rw [if_pos e]
 · rw [if_neg e,h]
theorem upA_upB (x:Int) (r:List Int):upA x r=upB (x :: r):=by
 induction r generalizing x with
 |nil=>rfl
 |cons y r ih=>show (decide (x<y) && upA y r)=(decide (x<y) && upB (y :: r));rw [ih]
theorem risA_of {xs:List Int} {hi:Int} (h:vBy xs 0 hi=true):risA xs=decide (0<xs.getD 0 0):=by
 unfold vBy at h;rw [Bool.and_eq_true] at h;have h2:=(vCz xs).1 h.1;have h3:=(upB_iff xs).2 h2.2.2;unfold risA;rw [decide_eq_true h2.1,decide_eq_true h2.2.1,Bool.and_self,Bool.and_true]
 cases xs with
 |nil=>exact absurd h2.1 (by simp)
 |cons x r=>
  show (decide (0<x) && upA x r)=decide (0<x)
  rw [upA_upB,h3,Bool.and_true]
def LW (c:UInt8) (w:Nat):Prop:=∀s,wdE c s=if saidB w s=true then 0 else refE w
theorem ap_mb (M:LV) (h:M.kind≠2∨0≤M.vlan):(if apB M=true then (0:Int) else 21)=(if M.kind=2∧mbB M=false then 21 else 0):=by
 have e:M.kind=2→apB M=mbB M:=by
  intro hk;unfold apB mbB;rw [decide_eq_false (by simpa using hk),Bool.false_or,Bool.and_comm];congr 1
  · rw [List.any_eq_not_all_not,Bool.not_not]
  · congr 1
    rcases h with h|h
    · exact absurd hk h
    · by_cases g:M.vlan=0
      · rw [decide_eq_false (by simpa using g),decide_eq_false (by omega)]
      · rw [decide_eq_true g,decide_eq_true (by omega)]
 by_cases hk:M.kind=2
 · rw [e hk]
   cases mbB M with
   |true=>rw [if_pos rfl,if_neg (by rintro ⟨_,h⟩;cases h)]
   |false=>rw [if_neg (by decide),if_pos ⟨hk,rfl⟩]
 · have h1:apB M=true:=by unfold apB;rw [decide_eq_true hk,Bool.true_or]
   rw [h1,if_pos rfl,if_neg (fun h=>hk h.1)]
noncomputable def vFf (L M:LV):Bool:=@decide (L=M) (Classical.propDecidable _)
theorem vFi (L M:LV):vFf L M=true↔L=M:=by unfold vFf;exact @decide_eq_true_iff _ (Classical.propDecidable _)
theorem vFs (L:LV):vFf L L=true:=(vFi L L).2 rfl
noncomputable def vCp:List (Nat×Nat)→LV→Option LV
 | [],L=>some L
 |(w,f) :: ps,L=>if vCq w (vBl f L WV.zero)=true then vCp ps (vCo f L WV.zero) else none
noncomputable def rgB (L:LV):Bool:=match vCp (pts L.kind true) L with
 |none=>false
 |some M=>(decide (0<(pts L.kind true).length) && apB L) && vFf M (LV.new L.row L.kind)
theorem rgB_some {L M:LV} (h:vCp (pts L.kind true) L=some M):rgB L=((decide (0<(pts L.kind true).length) && apB L) && vFf M (LV.new L.row L.kind)):=by
 unfold rgB;rw [h]
theorem rgB_none {L:LV} (h:vCp (pts L.kind true) L=none):rgB L=false:=by
 unfold rgB;rw [h]
theorem rgB_yes {L:LV} (h:rgB L=true):pts L.kind true≠[]∧vCp (pts L.kind true) L=some (LV.new L.row L.kind):=by
 cases hr:vCp (pts L.kind true) L with
 |none=>rw [rgB_none hr] at h;cases h
 |some M=>
  rw [rgB_some hr,Bool.and_eq_true,Bool.and_eq_true,decide_eq_true_eq,vFi] at h;refine ⟨fun e=>?_,by rw [h.2]⟩;rw [e] at h;exact absurd h.1.1 (by decide)
theorem pts_cases {P:List (Nat×Nat)→Prop} (k:Int) (tg:Bool) (h1:P [(0,0),(2,6),(7,9)]) (h2:P [(0,0),(0,1),(3,8),(1,5),(5,7),(10,12)]) (h0:P [(0,0),(0,1),(3,8),(1,5),(4,7)]) (h3:P [(0,0),(0,1),(0,2),(0,3)])
 (h4:P [(0,0),(4,7),(7,9),(0,1)]) (h5:P [(0,0),(8,10)]) (h6:P [(0,0),(4,7),(6,6)]) (h7:P [(0,0),(6,6),(12,15)]) (h8:P [(0,0),(0,4),(11,13),(11,14)]) (h9:P [(0,0),(4,7),(0,4),(9,11)]) (hn:P []):P (pts k tg):=by
 unfold pts
 repeat' split
 all_goals assumption
theorem pts_no (k:Int) (tg:Bool) (h:k<1∨9<k):pts k tg=[]:=by
 unfold pts;rw [if_neg (by omega),if_neg (by omega),if_neg (by omega),if_neg (by omega),if_neg (by omega),if_neg (by omega),if_neg (by omega),if_neg (by omega),if_neg (by omega)]
theorem may0 {s:List UInt8} (h:nmB s=true):vCq 0 {WV.zero with text:=s}=true:=by rw [vBb rfl];exact h
theorem vFn {w:Nat} {lo hi x:Int} (hw:mayW w {WV.zero with n:=x}=(decide (lo≤x) && decide (x≤hi))) (h0:lo≤x) (h1:x≤hi):vCq w {WV.zero with n:=x}=true:=by
 unfold vCq
 split
 · rfl
 · rw [hw,decide_eq_true h0,decide_eq_true h1];rfl
theorem may5 {x:Int} (h0:0≤x) (h1:x≤4094):vCq 5 {WV.zero with n:=x}=true:=by
 by_cases e:x=0
 · subst e;rfl
 · exact vFn (w:=5) (lo:=1) (hi:=4094) rfl (by omega) h1
theorem may7 {m:Int} (h:McOk m):vCq 7 {WV.zero with mac:=m}=true:=by
 rw [vBb rfl]
 show loneB m=true
 have h2:=h.2.2;unfold stB at h2;unfold loneB;rw [decide_eq_true (by have:=h.2.1;omega),Bool.true_and,Bool.and_comm];exact h2
theorem may8 {a:Int} (h:0<a):vCq 8 {WV.zero with addr:=a}=true:=by
 rw [vBb rfl]
 show (!decide (a=0))=true
 rw [decide_eq_false (by omega)]
 rfl
theorem may9 {a b:Int} (h:snB a b=true):vCq 9 {WV.zero with addr:=a,n:=b}=true:=by rw [vBb rfl];exact h
theorem may10 {xs:List Int} (h:LsOk 4094 xs):vCq 10 {WV.zero with list:=xs}=true:=by
 rcases h with rfl|h
 · rfl
 · exact may_list 10 xs h
theorem may11 {xs:List Int} (h:LsOk 65535 xs):vCq 11 {WV.zero with list:=xs}=true:=by
 rcases h with rfl|h
 · rfl
 · exact may_list 11 xs h
theorem may12 {xs:List Int} {hi:Int} (h:vBy xs 0 hi=true) (h0:0<xs.getD 0 0):vCq 12 {WV.zero with addrs:=xs}=true:=by
 rw [vBb rfl]
 show risA xs=true
 rw [risA_of h,decide_eq_true h0]
theorem vGy {L:LV} {ps:List (Nat×Nat)} (hp:pts L.kind true=ps) (h0:0<ps.length) (ha:apB L=true) (h:vCp ps L=some (LV.new L.row L.kind)):rgB L=true:=by
 rw [rgB_some (M:=LV.new L.row L.kind) (by rw [hp];exact h),hp,decide_eq_true h0,ha,vFs]
 rfl
theorem vAu {w f:Nat} {ps:List (Nat×Nat)} {L M:LV} (h:vCq w (vBl f L WV.zero)=true) (g:vCp ps (vCo f L WV.zero)=some M):vCp ((w,f) :: ps) L=some M:=by
 rw [vCp,if_pos h];exact g
theorem rgB_read (row:Int) (L:LV) (h:RdK row L):rgB L=true:=by
 rcases h with h|⟨h,hm⟩|h|h|h|h|h|h|h
 · obtain ⟨s,a,m,rfl,hs,ha,hm⟩:=h
   refine vGy (ps:=[(0,0),(2,6),(7,9)]) rfl (by decide) rfl ?_;exact vAu (may0 hs) (vAu (vFn (w:=2) (lo:=0) (hi:=65535) rfl ha.1 ha.2) (vAu (may7 hm) (show vCp [] _=some _ from rfl)))
 · obtain ⟨s,p,c,v,t,e,hs,hp,hc,hv,ht⟩:=h
   have hap:apB L=true:=by
    have h1:=ap_mb L (.inr (by rw [e];exact hv.1));rw [hm,if_neg (c:=L.kind=2∧true=false) (by rintro ⟨_,h⟩;cases h)] at h1
    by_cases hA:apB L=true
    · exact hA
    · rw [if_neg hA] at h1;cases h1
   subst e;refine vGy (ps:=[(0,0),(0,1),(3,8),(1,5),(5,7),(10,12)]) rfl (by decide) hap ?_;exact vAu (may0 hs) (vAu (may0 hp) (vAu (vFn (w:=3) (lo:=1) (hi:=65535) rfl hc.1 hc.2) (vAu (by rfl) (vAu (may5 hv.1 hv.2) (vAu (may10 ht) (show vCp [] _=some _ from rfl))))))
 · obtain ⟨s,p,q,r,rfl,hs,hp,hq,hr⟩:=h
   refine vGy (ps:=[(0,0),(0,1),(0,2),(0,3)]) rfl (by decide) rfl ?_;exact vAu (may0 hs) (vAu (may0 hp) (vAu (may0 hq) (vAu (may0 hr) (show vCp [] _=some _ from rfl))))
 · obtain ⟨s,v,m,p,rfl,hs,hv,hm,hp⟩:=h
   refine vGy (ps:=[(0,0),(4,7),(7,9),(0,1)]) rfl (by decide) rfl ?_;exact vAu (may0 hs) (vAu (vFn (w:=4) (lo:=1) (hi:=4094) rfl hv.1 hv.2) (vAu (may7 hm) (vAu (may0 hp) (show vCp [] _=some _ from rfl))))
 · obtain ⟨s,a,rfl,hs,ha⟩:=h
   refine vGy (ps:=[(0,0),(8,10)]) rfl (by decide) rfl ?_;exact vAu (may0 hs) (vAu (may8 ha.1) (show vCp [] _=some _ from rfl))
 · obtain ⟨s,v,a,rfl,hs,hv,ha⟩:=h
   refine vGy (ps:=[(0,0),(4,7),(6,6)]) rfl (by decide) rfl ?_;exact vAu (may0 hs) (vAu (vFn (w:=4) (lo:=1) (hi:=4094) rfl hv.1 hv.2) (vAu (vFn (w:=6) (lo:=1) (hi:=16777215) rfl ha.1 ha.2) (show vCp [] _=some _ from rfl)))
 · obtain ⟨s,a,x,rfl,hs,ha,hx⟩:=h
   refine vGy (ps:=[(0,0),(6,6),(12,15)]) rfl (by decide) rfl ?_;exact vAu (may0 hs) (vAu (vFn (w:=6) (lo:=1) (hi:=16777215) rfl ha.1 ha.2) (vAu (may12 hx.1 hx.2) (show vCp [] _=some _ from rfl)))
 · obtain ⟨s,n,x,y,rfl,hs,hn,hx,hy⟩:=h
   refine vGy (ps:=[(0,0),(0,4),(11,13),(11,14)]) rfl (by decide) rfl ?_;exact vAu (may0 hs) (vAu (may0 hn) (vAu (may11 hx) (vAu (may11 hy) (show vCp [] _=some _ from rfl))))
 · obtain ⟨s,v,n,a,b,rfl,hs,hv,hn,hab⟩:=h
   refine vGy (ps:=[(0,0),(4,7),(0,4),(9,11)]) rfl (by decide) rfl ?_;exact vAu (may0 hs) (vAu (vFn (w:=4) (lo:=1) (hi:=4094) rfl hv.1 hv.2) (vAu (may0 hn) (vAu (may9 hab.1) (show vCp [] _=some _ from rfl))))
end Go.Proofs.YtkpbbfehglihlaaGreatDoor
