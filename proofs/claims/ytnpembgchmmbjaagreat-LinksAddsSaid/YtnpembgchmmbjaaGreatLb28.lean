import Derived.Test.YtnpembgchmmbjaaGreatLb26
import Derived.Test.YtnpembgchmmbjaaGreatLb27
import Derived.Test.YtnpembgchmmbjaaGreatLb22
import Derived.Test.YtnpembgchmmbjaaGreatLb24
set_option maxRecDepth 100000
set_option maxHeartbeats 40000000
namespace Go.Proofs.YtnpembgchmmbjaaGreat
open Go.RowKit
theorem fm_port7 {ws:List (List UInt8)} (p:wat ws 0=vBt) (r:ws.length=7) (g:¬wat ws 4=vAu):fmV ws=[78,78,67,75,87,84]:=by
 have h0:¬ws=[]:=by intro e;subst e;cases r
 have k:kdV (wat ws 0)=2:=by rw [p];decide +kernel
 unfold fmV;rw [if_neg h0,if_neg (by rw [k];decide),if_neg (by rw [k];decide),if_neg (by rw [k];decide),if_neg (by rw [k];decide),if_neg (by rw [k];decide),if_neg (by rw [k];decide),if_neg (by rw [k];decide),if_neg (by rw [k];decide),if_pos k,if_pos ⟨r,g⟩]
theorem fm_port6 {ws:List (List UInt8)} (p:wat ws 0=vBt) (r:ws.length=6) (g:¬wat ws 4=vBf):fmV ws=[78,78,67,75,86]:=by
 have h0:¬ws=[]:=by intro e;subst e;cases r
 have k:kdV (wat ws 0)=2:=by rw [p];decide +kernel
 unfold fmV;rw [if_neg h0,if_neg (by rw [k];decide),if_neg (by rw [k];decide),if_neg (by rw [k];decide),if_neg (by rw [k];decide),if_neg (by rw [k];decide),if_neg (by rw [k];decide),if_neg (by rw [k];decide),if_neg (by rw [k];decide),if_pos k,if_neg (by omega),if_pos ⟨r,g⟩]
theorem fm_fifth {ws:List (List UInt8)} (p:wat ws 0=vBt) (r:ws.length=6∨ws.length=7) (f:fmV ws=[]∨¬ws.length=(fmV ws).length+1):wat ws 4=vAu∨wat ws 4=vBf:=by
 rcases r with r|r
 · by_cases g:wat ws 4=vBf
   · exact .inr g
   · have e:=fm_port6 p r g
     rw [e] at f
     rcases f with f|f
     · cases f
     · exact absurd r f
 · by_cases g:wat ws 4=vAu
   · exact .inl g
   · have e:=fm_port7 p r g
     rw [e] at f
     rcases f with f|f
     · cases f
     · exact absurd r f
theorem rread_any (A:Option Addr) (n c:Nat) (ws:List (List UInt8)) (row:Int) (w:World) (h:SSl w A n c ws) (hs:∀p∈ws,p.length≤1000000):
 Calls Tryz.prog 139 #[.slice A n c,.int .i64 row] w (vCl w (rdL ws row) (rdE ws row)):=by
 have hl:=h.len
 by_cases f:fmV ws=[]
 · have e1:rdE ws row=22:=by unfold rdE;rw [if_pos (show ltV ws=[] from if_neg (fun g=>g.1 f))]
   have e2:rdL ws row=LV.zero:=by unfold rdL;rw [if_neg (by rw [e1];decide)]
   rw [e1,e2]
   by_cases r4:n≤4
   · exact rread_a1 A n c ws row w h f r4
   · by_cases p:wat ws 0=vBt
     · by_cases r7:7<n
       · exact rread_a3 A n c ws row w h f r7 p
       · by_cases r5:n=5
         · exact rread_a4 A n c ws row w h f r5 p
         · rcases fm_fifth p (by omega) (.inl f) with g|g
           · exact rread_a5 A n c ws row w h f (by omega) p g
           · exact rread_a6 A n c ws row w h f (by omega) p g
     · exact rread_a2 A n c ws row w h f (by omega) p
 · by_cases f2:n=(fmV ws).length+1
   · have e0:ltV ws=fmV ws:=if_pos ⟨f,by omega⟩
     have key:=rread_run A n c ws row w h hs f f2 _ rfl _ rfl _ rfl
     have e1:rdE ws row=(if (vCj (fmV ws) (ws.drop 1) 0 (LV.new row (kdV (wat ws 0)))).1=0 then (if (vCj (fmV ws) (ws.drop 1) 0 (LV.new row (kdV (wat ws 0)))).2.kind=2∧mbB (vCj (fmV ws) (ws.drop 1) 0 (LV.new row (kdV (wat ws 0)))).2=false then 21 else 0) else (vCj (fmV ws) (ws.drop 1) 0 (LV.new row (kdV (wat ws 0)))).1):=by
      unfold rdE;rw [e0,if_neg f]
     have e2:rdL ws row=if rdE ws row=0 then (vCj (fmV ws) (ws.drop 1) 0 (LV.new row (kdV (wat ws 0)))).2 else LV.zero:=by unfold rdL;rw [e0]
     rw [e2,e1];exact key
   · have e1:rdE ws row=22:=by unfold rdE;rw [if_pos (show ltV ws=[] from if_neg (fun g=>f2 (by rw [←hl];exact g.2)))]
     have e2:rdL ws row=LV.zero:=by unfold rdL;rw [if_neg (by rw [e1];decide)]
     rw [e1,e2]
     by_cases r4:n≤4
     · exact rread_b1 A n c ws row w h f f2 r4
     · by_cases p:wat ws 0=vBt
       · by_cases r7:7<n
         · exact rread_b3 A n c ws row w h f f2 r7 p
         · by_cases r5:n=5
           · exact rread_b4 A n c ws row w h f f2 r5 p
           · rcases fm_fifth p (by omega) (.inr (by rw [hl];exact f2)) with g|g
             · exact rread_b5 A n c ws row w h f f2 (by omega) p g
             · exact rread_b6 A n c ws row w h f f2 (by omega) p g
       · exact rread_b2 A n c ws row w h f f2 (by omega) p
def exW2:List (List UInt8):=[[112,111,114,116],[115,119,49],[112,49],[52],[116,114,117,110,107],[49,48],[49,48,44,50,48]]
def exL1:LV:={LV.new 7 2 with dev:=[115,119,49],port:=[112,49],cost:=4,vlan:=10}
theorem st_itoa10:Lib.itoa 10=[49,48]:=by rw [show (10:Int)=((10:Nat):Int) from rfl,vFr,vEe (by omega),vBz (by omega)];rfl
theorem st_itoa20:Lib.itoa 20=[50,48]:=by rw [show (20:Int)=((20:Nat):Int) from rfl,vFr,vEe (by omega),vBz (by omega)];rfl
theorem st_itoa4:Lib.itoa 4=[52]:=by rw [show (4:Int)=((4:Nat):Int) from rfl,vFr,vBz (by omega)];rfl
theorem st_n10:nF [49,48] 1 4094=some 10:=vHc.2 ⟨st_itoa10,by decide,by omega,by omega⟩
theorem st_n20:nF [50,48] 1 4094=some 20:=vHc.2 ⟨st_itoa20,by decide,by omega,by omega⟩
theorem st_n4:nF [52] 1 65535=some 4:=vHc.2 ⟨st_itoa4,by decide,by omega,by omega⟩
theorem st_list:rlF (rdI 1 4094) [49,48,44,50,48]=some [10,20]:=by
 refine rlF_yes ?_ (by decide);rw [show vAg [49,48,44,50,48]=[[49,48],[50,48]] by decide];simp [vBs,rdI,st_n10,st_n20]
theorem st_sw1:nmB [115,119,49]=true:=(nmB_iff _).2 ⟨by decide,by decide,⟨by decide,by decide⟩,fun j hj=>by
 have hj2:j<3:=hj
 have:j=0∨j=1∨j=2:=by omega
 rcases this with rfl|rfl|rfl
 · exact .inl ⟨by decide,by decide⟩
 · exact .inl ⟨by decide,by decide⟩
 · exact .inr ⟨by decide,by decide⟩⟩
theorem st_p1:nmB [112,49]=true:=(nmB_iff _).2 ⟨by decide,by decide,⟨by decide,by decide⟩,fun j hj=>by
 have hj2:j<2:=hj
 have:j=0∨j=1:=by omega
 rcases this with rfl|rfl
 · exact .inl ⟨by decide,by decide⟩
 · exact .inr ⟨by decide,by decide⟩⟩
theorem vGd {c:UInt8} {f:List UInt8} {s:List UInt8} {ws:List (List UInt8)} {k:Nat} {L:LV} (h:wdE c s=0):vCj (c :: f) (s :: ws) k L=vCj f ws (if c=78 then k+1 else k) (wdL c s k L):=by rw [vCj,if_pos h]
theorem wdE_N {s:List UInt8} (h:nmB s=true):wdE 78 s=0:=by show (if nmB s=true then (0:Int) else 20)=0;exact if_pos h
theorem wdE_num {c:UInt8} {s:List UInt8} {b:Bool} (e:wdE c s=if b=true then 0 else 21) (h:b=true):wdE c s=0:=by rw [e,if_pos h]
theorem wdE_K {s:List UInt8} (h:s=vAu∨s=vBf):wdE 75 s=0:=by
 have e:wdE 75 s=if s=vAu∨s=vBf then 0 else 20:=rfl;rw [e,if_pos h]
theorem nB_of {s:List UInt8} {lo hi n:Int} (h:nF s lo hi=some n):nB s lo hi=true∧nV s lo hi=n:=by unfold nB nV;rw [h];exact ⟨rfl,rfl⟩
theorem rd_of {ws:List (List UInt8)} {row:Int} {F:List UInt8} (hf:fmV ws=F) (h0:F≠[]) (h1:ws.length=F.length+1) {k:Int} (hk:kdV (wat ws 0)=k) {E:Int} {L:LV} (hr:vCj F (ws.drop 1) 0 (LV.new row k)=(E,L)):
 rdE ws row=(if E=0 then (if L.kind=2∧mbB L=false then 21 else 0) else E)∧rdL ws row=if rdE ws row=0 then L else LV.zero:=by
 subst hf;have e0:ltV ws=fmV ws:=if_pos ⟨h0,h1⟩
 constructor
 · unfold rdE
   rw [e0,if_neg h0,hk,hr]
 · unfold rdL
   rw [e0,hk,hr]
theorem ex2_run:vCj [78,78,67,75,87,84] (exW2.drop 1) 0 (LV.new 7 2)=(0,{exL1 with tagged:=[10,20]}):=by
 show vCj [78,78,67,75,87,84] [[115,119,49],[112,49],[52],[116,114,117,110,107],[49,48],[49,48,44,50,48]] 0 (LV.new 7 2)=_
 have c4:=nB_of st_n4;have v10:=nB_of st_n10
 have hd:¬([49,48,44,50,48]:List UInt8)=dash:=by decide
 have t1:lsDB [49,48,44,50,48] 4094=true:=by unfold lsDB;rw [if_neg hd];exact (ls_yes st_list).2
 have t2:lsD [49,48,44,50,48] 4094=[10,20]:=by unfold lsD;rw [if_neg hd];exact (ls_yes st_list).1
 rw [vGd (wdE_N st_sw1),vGd (wdE_N st_p1),vGd (wdE_num (b:=nB [52] 1 65535) rfl c4.1),vGd (wdE_K (s:=[116,114,117,110,107]) (.inr rfl)),vGd (wdE_num (c:=87) (b:=nB [49,48] 1 4094 || decide ([49,48]=dash)) rfl (by rw [v10.1];rfl)),vGd (wdE_num (c:=84) (b:=lsDB [49,48,44,50,48] 4094) rfl t1)]
 show ((0:Int),({LV.new 7 2 with dev:=[115,119,49],port:=[112,49],cost:=nV [52] 1 65535,vlan:=nV [49,48] 1 4094,tagged:=lsD [49,48,44,50,48] 4094}:LV))=_
 rw [c4.2,v10.2,t2]
 rfl
theorem ex2:rdE exW2 7=21:=by
 obtain ⟨h1,h2⟩:=rd_of (ws:=exW2) (row:=7) (fm_port7 rfl rfl (by decide)) (by simp) rfl (show kdV (wat exW2 0)=2 by decide +kernel) ex2_run;rw [h1]
 decide +kernel
open Go.Lib (itoa)
def wnS (n:Int):List UInt8:=itoa n
def wmS (m:Int):List UInt8:=(Mac.textPre m 6).map fun n=>UInt8.ofNat n.toNat
def waS (a:Int):List UInt8:=txt a.toNat
def wlS (f:Int→List UInt8) (xs:List Int):List UInt8:=if xs=[] then dash else jn f xs
def wpS (a b:Int):List UInt8:=ptxt a.toNat b.toNat
def sDevice:List UInt8:=[100,101,118,105,99,101]
def sLink:List UInt8:=[108,105,110,107]
def sStatic:List UInt8:=[115,116,97,116,105,99]
def sVtep:List UInt8:=[118,116,101,112]
def sVni:List UInt8:=[118,110,105]
def sFlood:List UInt8:=[102,108,111,111,100]
def sVrf:List UInt8:=[118,114,102]
def sIrb:List UInt8:=[105,114,98]
def wrW (L:LV):List (List UInt8):=
 if L.kind=1 then [sDevice,L.dev,wnS L.num,wmS L.mac]
 else if L.kind=2 then (if L.tagged=[] then [vBt,L.dev,L.port,wnS L.cost,vAu,wnS L.vlan] else [vBt,L.dev,L.port,wnS L.cost,vBf,if L.vlan=0 then dash else wnS L.vlan,jn wnS L.tagged])
 else if L.kind=3 then [sLink,L.dev,L.port,L.peer,L.far]
 else if L.kind=4 then [sStatic,L.dev,wnS L.vlan,wmS L.mac,L.port]
 else if L.kind=5 then [sVtep,L.dev,waS L.addr]
 else if L.kind=6 then [sVni,L.dev,wnS L.vlan,wnS L.num]
 else if L.kind=7 then [sFlood,L.dev,wnS L.num,jn waS L.addrs]
 else if L.kind=8 then [sVrf,L.dev,L.name,wlS wnS L.imports,wlS wnS L.exports]
 else if L.kind=9 then [sIrb,L.dev,wnS L.vlan,L.name,wpS L.addr L.bits]
 else []
end Go.Proofs.YtnpembgchmmbjaaGreat
