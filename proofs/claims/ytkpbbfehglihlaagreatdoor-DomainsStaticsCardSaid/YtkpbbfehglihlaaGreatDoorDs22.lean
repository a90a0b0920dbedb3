import Derived.Test.YtkpbbfehglihlaaGreatDoorDs12
import Derived.Test.YtkpbbfehglihlaaGreatDoorDs05
import Derived.Test.YtkpbbfehglihlaaGreatDoorDs03
import Derived.Test.YtkpbbfehglihlaaGreatDoorDs21
set_option maxRecDepth 100000
set_option maxHeartbeats 40000000
namespace Go.Proofs.YtkpbbfehglihlaaGreatDoor
open Go.RowKit
noncomputable def nmB (s:List UInt8):Bool:=@decide (vIc (str s)) (Classical.propDecidable _)
theorem vGi (s:List UInt8):nmB s=true↔vIc (str s):=by
 unfold nmB;exact @decide_eq_true_iff _ (Classical.propDecidable _)
def mcV (s:List UInt8):Int:=Mac.rdV (str s)
def mcB (s:List UInt8):Bool:=Mac.rdB (str s)
def stB (m:Int):Bool:=!Mac.isHostB m && !Mac.grp m
def snB (A B:Int):Bool:=decide (1≤B) && decide (B≤30) && !decide (A=FS A B) && !decide (A=LS A B)
def paV (s:List UInt8):Int:=(((pfF s).getD (0,0)).1:Nat)
def pbV (s:List UInt8):Int:=(((pfF s).getD (0,0)).2:Nat)
def dash:List UInt8:=[45]
def vAt:List UInt8:=[97,99,99,101,115,115]
def vBd:List UInt8:=[116,114,117,110,107]
def vBr:List UInt8:=[112,111,114,116]
def lsD (s:List UInt8) (hi:Int):List Int:=if s=dash then [] else lsV (rdI 1 hi) s
def lsDB (s:List UInt8) (hi:Int):Bool:=if s=dash then true else lsB (rdI 1 hi) s
def wdB (c:UInt8) (s:List UInt8):Bool:=
 if c=80 then nB s 0 65535 else if c=67 then nB s 1 65535 else if c=77 then mcB s && stB (mcV s) else if c=86 then nB s 1 4094
 else if c=87 then nB s 1 4094 || decide (s=dash) else if c=84 then lsDB s 4094 else if c=73 then nB s 1 16777215
 else if c=65 then rdB s && decide (0<rdV s) else if c=76 then lsB rdA s && decide (0<(lsV rdA s).getD 0 0) else if c=82 then lsDB s 65535
 else if c=83 then pfB s && snB (paV s) (pbV s) else false
noncomputable def wdE (c:UInt8) (s:List UInt8):Int:=
 if c=78 then (if nmB s=true then 0 else 20) else if c=75 then (if s=vAt∨s=vBd then 0 else 20) else if wdB c s=true then 0 else 21
def nmL (s:List UInt8) (k:Nat) (L:LV):LV:=
 if k=0 then {L with dev:=s} else if L.kind=8∨L.kind=9 then {L with name:=s} else if k=1 then {L with port:=s} else if k=2 then {L with peer:=s} else if k=3 then {L with far:=s} else L
def wdL (c:UInt8) (s:List UInt8) (k:Nat) (L:LV):LV:=
 if c=78 then nmL s k L else if c=75 then L else if c=80 then {L with num:=nV s 0 65535} else if c=67 then {L with cost:=nV s 1 65535} else if c=77 then {L with mac:=mcV s}
 else if c=86 then {L with vlan:=nV s 1 4094} else if c=87 then {L with vlan:=nV s 1 4094} else if c=84 then {L with tagged:=lsD s 4094} else if c=73 then {L with num:=nV s 1 16777215}
 else if c=65 then {L with addr:=rdV s} else if c=76 then {L with addrs:=lsV rdA s} else if c=82 then {L with imports:=L.exports,exports:=lsD s 65535}
 else if c=83 then {L with addr:=paV s,bits:=pbV s} else L
noncomputable def vCf:List UInt8→List (List UInt8)→Nat→LV→Int×LV
 |c :: f,s :: ws,k,L=>if wdE c s=0 then vCf f ws (if c=78 then k+1 else k) (wdL c s k L) else (wdE c s,L)
 |_,_,_,L=>(0,L)
def kdV (s:List UInt8):Int:=
 if s=[100,101,118,105,99,101] then 1 else if s=vBr then 2 else if s=[108,105,110,107] then 3 else if s=[115,116,97,116,105,99] then 4 else if s=[118,116,101,112] then 5
 else if s=[118,110,105] then 6 else if s=[102,108,111,111,100] then 7 else if s=[118,114,102] then 8 else if s=[105,114,98] then 9 else 0
def wat (ws:List (List UInt8)) (i:Nat):List UInt8:=ws.getD i []
def fmV (ws:List (List UInt8)):List UInt8:=
 if ws=[] then [] else if kdV (wat ws 0)=1 then [78,80,77] else if kdV (wat ws 0)=3 then [78,78,78,78] else if kdV (wat ws 0)=4 then [78,86,77,78] else if kdV (wat ws 0)=5 then [78,65]
 else if kdV (wat ws 0)=6 then [78,86,73] else if kdV (wat ws 0)=7 then [78,73,76] else if kdV (wat ws 0)=8 then [78,78,82,82] else if kdV (wat ws 0)=9 then [78,86,78,83]
 else if kdV (wat ws 0)=2 then (if ws.length=7∧¬wat ws 4=vAt then [78,78,67,75,87,84] else if ws.length=6∧¬wat ws 4=vBd then [78,78,67,75,86] else []) else []
def ltV (ws:List (List UInt8)):List UInt8:=if fmV ws≠[]∧ws.length=(fmV ws).length+1 then fmV ws else []
def mbB (L:LV):Bool:=L.tagged.all (fun x=>!decide (x=L.vlan)) && (decide (0<L.vlan) || decide (0<L.tagged.length))
def LV.new (row kind:Int):LV:=⟨row,kind,[],[],[],[],[],0,0,0,0,0,0,[],[],[],[]⟩
noncomputable def rdE (ws:List (List UInt8)) (row:Int):Int:=
 if ltV ws=[] then 22 else
 let r:=vCf (ltV ws) (ws.drop 1) 0 (LV.new row (kdV (wat ws 0)))
 if r.1=0 then (if r.2.kind=2∧mbB r.2=false then 21 else 0) else r.1
noncomputable def rdL (ws:List (List UInt8)) (row:Int):LV:=if rdE ws row=0 then (vCf (ltV ws) (ws.drop 1) 0 (LV.new row (kdV (wat ws 0)))).2 else LV.zero
end Go.Proofs.YtkpbbfehglihlaaGreatDoor
