import Derived.Test.YtkpbbfehglihlaaGreatDoorDs24
import Derived.Test.YtkpbbfehglihlaaGreatDoorDs25
import Derived.Test.YtkpbbfehglihlaaGreatDoorDs20
import Derived.Test.YtkpbbfehglihlaaGreatDoorDs22
import Derived.Test.YtkpbbfehglihlaaGreatDoorDs12
import Derived.RegionTactic
set_option maxRecDepth 100000
set_option maxHeartbeats 40000000
namespace Go.Proofs.YtkpbbfehglihlaaGreatDoor
open Go.Lib (hid)
open Go.RowKit
theorem fm_port7 {ws:List (List UInt8)} (p:wat ws 0=vBr) (r:ws.length=7) (g:¬wat ws 4=vAt):fmV ws=[78,78,67,75,87,84]:=by
 have h0:¬ws=[]:=by intro e;subst e;cases r
 have k:kdV (wat ws 0)=2:=by rw [p];decide +kernel
 unfold fmV;rw [if_neg h0,if_neg (by rw [k];decide),if_neg (by rw [k];decide),if_neg (by rw [k];decide),if_neg (by rw [k];decide),if_neg (by rw [k];decide),if_neg (by rw [k];decide),if_neg (by rw [k];decide),if_neg (by rw [k];decide),if_pos k,if_pos ⟨r,g⟩]
theorem fm_port6 {ws:List (List UInt8)} (p:wat ws 0=vBr) (r:ws.length=6) (g:¬wat ws 4=vBd):fmV ws=[78,78,67,75,86]:=by
 have h0:¬ws=[]:=by intro e;subst e;cases r
 have k:kdV (wat ws 0)=2:=by rw [p];decide +kernel
 unfold fmV;rw [if_neg h0,if_neg (by rw [k];decide),if_neg (by rw [k];decide),if_neg (by rw [k];decide),if_neg (by rw [k];decide),if_neg (by rw [k];decide),if_neg (by rw [k];decide),if_neg (by rw [k];decide),if_neg (by rw [k];decide),if_pos k,if_neg (by omega),if_pos ⟨r,g⟩]
theorem fm_fifth {ws:List (List UInt8)} (p:wat ws 0=vBr) (r:ws.length=6∨ws.length=7) (f:fmV ws=[]∨¬ws.length=(fmV ws).length+1):wat ws 4=vAt∨wat ws 4=vBd:=by
 rcases r with r|r
 · by_cases g:wat ws 4=vBd
   · exact .inr g
   · have e:=fm_port6 p r g
     rw [e] at f
     rcases f with f|f
     · cases f
     · exact absurd r f
 · by_cases g:wat ws 4=vAt
   · exact .inl g
   · have e:=fm_port7 p r g
     rw [e] at f
     rcases f with f|f
     · cases f
     · exact absurd r f
theorem rread_any (A:Option Addr) (n c:Nat) (ws:List (List UInt8)) (row:Int) (w:World) (h:SSl w A n c ws) (hs:∀p∈ws,p.length≤1000000):
 Calls Tryz.prog 164 #[.slice A n c,.int .i64 row] w (vCj w (rdL ws row) (rdE ws row)):=by
 have hl:=h.len
 by_cases f:fmV ws=[]
 · have e1:rdE ws row=22:=by unfold rdE;rw [if_pos (show ltV ws=[] from if_neg (fun g=>g.1 f))]
   have e2:rdL ws row=LV.zero:=by unfold rdL;rw [if_neg (by rw [e1];decide)]
   rw [e1,e2]
   by_cases r4:n≤4
   · exact rread_a1 A n c ws row w h f r4
   · by_cases p:wat ws 0=vBr
     · by_cases r7:7<n
       · exact rread_a3 A n c ws row w h f r7 p
       · by_cases r5:n=5
         · exact rread_a4 A n c ws row w h f r5 p
         · rcases fm_fifth p (by omega) (.inl f) with g|g
           · exact rread_a5 A n c ws row w h f (by omega) p g
           · exact rread_a6 A n c ws row w h f (by omega) p g
     · exact rread_a2 A n c ws row w h f (by omega) p
 · by_cases f2:n=(fmV ws).length+1
   · have e0:ltV ws=fmV ws:=if_pos ⟨f,by omega⟩
     have key:=rread_run A n c ws row w h hs f f2 _ rfl _ rfl _ rfl
     have e1:rdE ws row=(if (vCf (fmV ws) (ws.drop 1) 0 (LV.new row (kdV (wat ws 0)))).1=0 then (if (vCf (fmV ws) (ws.drop 1) 0 (LV.new row (kdV (wat ws 0)))).2.kind=2∧mbB (vCf (fmV ws) (ws.drop 1) 0 (LV.new row (kdV (wat ws 0)))).2=false then 21 else 0) else (vCf (fmV ws) (ws.drop 1) 0 (LV.new row (kdV (wat ws 0)))).1):=by
      unfold rdE;rw [e0,if_neg f]
     have e2:rdL ws row=if rdE ws row=0 then (vCf (fmV ws) (ws.drop 1) 0 (LV.new row (kdV (wat ws 0)))).2 else LV.zero:=by unfold rdL;rw [e0]
     rw [e2,e1];exact key
   · have e1:rdE ws row=22:=by unfold rdE;rw [if_pos (show ltV ws=[] from if_neg (fun g=>f2 (by rw [←hl];exact g.2)))]
     have e2:rdL ws row=LV.zero:=by unfold rdL;rw [if_neg (by rw [e1];decide)]
     rw [e1,e2]
     by_cases r4:n≤4
     · exact rread_b1 A n c ws row w h f f2 r4
     · by_cases p:wat ws 0=vBr
       · by_cases r7:7<n
         · exact rread_b3 A n c ws row w h f f2 r7 p
         · by_cases r5:n=5
           · exact rread_b4 A n c ws row w h f f2 r5 p
           · rcases fm_fifth p (by omega) (.inr (by rw [hl];exact f2)) with g|g
             · exact rread_b5 A n c ws row w h f f2 (by omega) p g
             · exact rread_b6 A n c ws row w h f f2 (by omega) p g
       · exact rread_b2 A n c ws row w h f f2 (by omega) p
def exW2:List (List UInt8):=[[112,111,114,116],[115,119,49],[112,49],[52],[116,114,117,110,107],[49,48],[49,48,44,50,48]]
def exL1:LV:={LV.new 7 2 with dev:=[115,119,49],port:=[112,49],cost:=4,vlan:=10}
theorem st_itoa10:Lib.itoa 10=[49,48]:=by rw [show (10:Int)=((10:Nat):Int) from rfl,vFy,vEg (by omega),vBv (by omega)];rfl
theorem st_itoa20:Lib.itoa 20=[50,48]:=by rw [show (20:Int)=((20:Nat):Int) from rfl,vFy,vEg (by omega),vBv (by omega)];rfl
theorem st_itoa4:Lib.itoa 4=[52]:=by rw [show (4:Int)=((4:Nat):Int) from rfl,vFy,vBv (by omega)];rfl
theorem st_n10:nF [49,48] 1 4094=some 10:=vGa.2 ⟨st_itoa10,by decide,by omega,by omega⟩
theorem st_n20:nF [50,48] 1 4094=some 20:=vGa.2 ⟨st_itoa20,by decide,by omega,by omega⟩
theorem st_n4:nF [52] 1 65535=some 4:=vGa.2 ⟨st_itoa4,by decide,by omega,by omega⟩
theorem st_list:rlF (rdI 1 4094) [49,48,44,50,48]=some [10,20]:=by
 refine rlF_yes ?_ (by decide);rw [show vAg [49,48,44,50,48]=[[49,48],[50,48]] by decide];simp [vBq,rdI,st_n10,st_n20]
theorem st_sw1:nmB [115,119,49]=true:=(vGi _).2 ⟨by decide,by decide,⟨by decide,by decide⟩,fun j hj=>by
 have hj2:j<3:=hj
 have:j=0∨j=1∨j=2:=by omega
 rcases this with rfl|rfl|rfl
 · exact .inl ⟨by decide,by decide⟩
 · exact .inl ⟨by decide,by decide⟩
 · exact .inr ⟨by decide,by decide⟩⟩
theorem st_p1:nmB [112,49]=true:=(vGi _).2 ⟨by decide,by decide,⟨by decide,by decide⟩,fun j hj=>by
 have hj2:j<2:=hj
 have:j=0∨j=1:=by omega
 rcases this with rfl|rfl
 · exact .inl ⟨by decide,by decide⟩
 · exact .inr ⟨by decide,by decide⟩⟩
theorem vGb {c:UInt8} {f s:List UInt8} {ws:List (List UInt8)} {k:Nat} {L:LV} (h:wdE c s=0):vCf (c :: f) (s :: ws) k L=vCf f ws (if c=78 then k+1 else k) (wdL c s k L):=by rw [vCf,if_pos h]
theorem wdE_N {s:List UInt8} (h:nmB s=true):wdE 78 s=0:=by show (if nmB s=true then (0:Int) else 20)=0;exact if_pos h
theorem wdE_num {c:UInt8} {s:List UInt8} {b:Bool} (e:wdE c s=if b=true then 0 else 21) (h:b=true):wdE c s=0:=by rw [e,if_pos h]
theorem wdE_K {s:List UInt8} (h:s=vAt∨s=vBd):wdE 75 s=0:=by
 have e:wdE 75 s=if s=vAt∨s=vBd then 0 else 20:=rfl;rw [e,if_pos h]
theorem nB_of {s:List UInt8} {lo hi n:Int} (h:nF s lo hi=some n):nB s lo hi=true∧nV s lo hi=n:=by unfold nB nV;rw [h];exact ⟨rfl,rfl⟩
theorem rd_of {ws:List (List UInt8)} {row:Int} {F:List UInt8} (hf:fmV ws=F) (h0:F≠[]) (h1:ws.length=F.length+1) {k:Int} (hk:kdV (wat ws 0)=k) {E:Int} {L:LV} (hr:vCf F (ws.drop 1) 0 (LV.new row k)=(E,L)):
 rdE ws row=(if E=0 then (if L.kind=2∧mbB L=false then 21 else 0) else E)∧rdL ws row=if rdE ws row=0 then L else LV.zero:=by
 subst hf;have e0:ltV ws=fmV ws:=if_pos ⟨h0,h1⟩
 constructor
 · unfold rdE
   rw [e0,if_neg h0,hk,hr]
 · unfold rdL
   rw [e0,hk,hr]
theorem ex2_run:vCf [78,78,67,75,87,84] (exW2.drop 1) 0 (LV.new 7 2)=(0,{exL1 with tagged:=[10,20]}):=by
 show vCf [78,78,67,75,87,84] [[115,119,49],[112,49],[52],[116,114,117,110,107],[49,48],[49,48,44,50,48]] 0 (LV.new 7 2)=_
 have c4:=nB_of st_n4;have v10:=nB_of st_n10
 have hd:¬([49,48,44,50,48]:List UInt8)=dash:=by decide
 have t1:lsDB [49,48,44,50,48] 4094=true:=by unfold lsDB;rw [if_neg hd];exact (ls_yes st_list).2
 have t2:lsD [49,48,44,50,48] 4094=[10,20]:=by unfold lsD;rw [if_neg hd];exact (ls_yes st_list).1
 rw [vGb (wdE_N st_sw1),vGb (wdE_N st_p1),vGb (wdE_num (b:=nB [52] 1 65535) rfl c4.1),vGb (wdE_K (s:=[116,114,117,110,107]) (.inr rfl)),vGb (wdE_num (c:=87) (b:=nB [49,48] 1 4094 || decide ([49,48]=dash)) rfl (by rw [v10.1];rfl)),vGb (wdE_num (c:=84) (b:=lsDB [49,48,44,50,48] 4094) rfl t1)]
 show ((0:Int),({LV.new 7 2 with dev:=[115,119,49],port:=[112,49],cost:=nV [52] 1 65535,vlan:=nV [49,48] 1 4094,tagged:=lsD [49,48,44,50,48] 4094}:LV))=_
 rw [c4.2,v10.2,t2]
 rfl
theorem ex2:rdE exW2 7=21:=by
 obtain ⟨h1,h2⟩:=rd_of (ws:=exW2) (row:=7) (fm_port7 rfl rfl (by decide)) (by simp) rfl (show kdV (wat exW2 0)=2 by decide +kernel) ex2_run;rw [h1]
 decide +kernel
open Go.Lib (itoa)
def wnS (n:Int):List UInt8:=itoa n
def wmS (m:Int):List UInt8:=(Mac.textPre m 6).map fun n=>UInt8.ofNat n.toNat
def waS (a:Int):List UInt8:=txt a.toNat
def wlS (f:Int→List UInt8) (xs:List Int):List UInt8:=if xs=[] then dash else jn f xs
def wpS (a b:Int):List UInt8:=ptxt a.toNat b.toNat
def sDevice:List UInt8:=[100,101,118,105,99,101]
def sLink:List UInt8:=[108,105,110,107]
def vDx:List UInt8:=[115,116,97,116,105,99]
def sVtep:List UInt8:=[118,116,101,112]
def sVni:List UInt8:=[118,110,105]
def sFlood:List UInt8:=[102,108,111,111,100]
def sVrf:List UInt8:=[118,114,102]
def sIrb:List UInt8:=[105,114,98]
def wrW (L:LV):List (List UInt8):=
 if L.kind=1 then [sDevice,L.dev,wnS L.num,wmS L.mac]
 else if L.kind=2 then (if L.tagged=[] then [vBr,L.dev,L.port,wnS L.cost,vAt,wnS L.vlan] else [vBr,L.dev,L.port,wnS L.cost,vBd,if L.vlan=0 then dash else wnS L.vlan,jn wnS L.tagged])
 else if L.kind=3 then [sLink,L.dev,L.port,L.peer,L.far]
 else if L.kind=4 then [vDx,L.dev,wnS L.vlan,wmS L.mac,L.port]
 else if L.kind=5 then [sVtep,L.dev,waS L.addr]
 else if L.kind=6 then [sVni,L.dev,wnS L.vlan,wnS L.num]
 else if L.kind=7 then [sFlood,L.dev,wnS L.num,jn waS L.addrs]
 else if L.kind=8 then [sVrf,L.dev,L.name,wlS wnS L.imports,wlS wnS L.exports]
 else if L.kind=9 then [sIrb,L.dev,wnS L.vlan,L.name,wpS L.addr L.bits]
 else []
structure WV where
 text:List UInt8
 n:Int
 mac:Int
 addr:Int
 list:List Int
 addrs:List Int
def WV.zero:WV:=⟨[],0,0,0,[],[]⟩
def vCo:Nat→LV→WV→LV
 |0,L,V=>{L with dev:=V.text}
 |1,L,V=>{L with port:=V.text}
 |2,L,V=>{L with peer:=V.text}
 |3,L,V=>{L with far:=V.text}
 |4,L,V=>{L with name:=V.text}
 |5,L,_=>L
 |6,L,V=>{L with num:=V.n}
 |7,L,V=>{L with vlan:=V.n}
 |8,L,V=>{L with cost:=V.n}
 |9,L,V=>{L with mac:=V.mac}
 |10,L,V=>{L with addr:=V.addr}
 |11,L,V=>{L with addr:=V.addr,bits:=V.n}
 |12,L,V=>{L with tagged:=V.list}
 |13,L,V=>{L with imports:=V.list}
 |14,L,V=>{L with exports:=V.list}
 |15,L,V=>{L with addrs:=V.addrs}
 |_,L,_=>L
def vBl:Nat→LV→WV→WV
 |0,L,V=>{V with text:=L.dev}
 |1,L,V=>{V with text:=L.port}
 |2,L,V=>{V with text:=L.peer}
 |3,L,V=>{V with text:=L.far}
 |4,L,V=>{V with text:=L.name}
 |5,_,V=>{V with text:=[116,114,117,110,107]}
 |6,L,V=>{V with n:=L.num}
 |7,L,V=>{V with n:=L.vlan}
 |8,L,V=>{V with n:=L.cost}
 |9,L,V=>{V with mac:=L.mac}
 |10,L,V=>{V with addr:=L.addr}
 |11,L,V=>{V with addr:=L.addr,n:=L.bits}
 |12,L,V=>{V with list:=L.tagged}
 |13,L,V=>{V with list:=L.imports}
 |14,L,V=>{V with list:=L.exports}
 |15,L,V=>{V with addrs:=L.addrs}
 |_,_,V=>V
def Ex2 (p q:Nat) (w w':World):Prop:=w'.os=w.os∧w'.tape=w.tape∧w'.output=w.output∧w.heap.size≤w'.heap.size∧∀k,k≠p→k≠q→k<w.heap.size→w'.heap[k]?=w.heap[k]?
section
variable {p q:Nat} {w w' w'':World}
theorem Ex2.of_below (h:Below w.heap.size w w'):Ex2 p q w w':=⟨h.os,h.tape,h.output,h.size,fun k _ _ hk=>h.block k hk⟩
theorem Ex2.refl (p q:Nat) (w:World):Ex2 p q w w:=Ex2.of_below (Below.refl _ _)
theorem Ex2.trans (h:Ex2 p q w w') (g:Ex2 p q w' w''):Ex2 p q w w'':=by
 obtain ⟨h0,h1,h2,h3,h4⟩:=h;obtain ⟨g0,g1,g2,g3,g4⟩:=g;exact ⟨g0.trans h0,g1.trans h1,g2.trans h2,Nat.le_trans h3 g3,fun k hp hq hk=>(g4 k hp hq (by omega)).trans (h4 k hp hq hk)⟩
theorem Ex2.setp (h:Ex2 p q w w') (j:Nat) (v:Value):Ex2 p q w (w'.setCell ⟨p,j,none⟩ v):=
 h.trans ⟨rfl,rfl,rfl,by simp [World.setCell],fun k hk _ _=>Below.heap_setCell _ _ _ _ hk⟩
theorem Ex2.setq (h:Ex2 p q w w') (j:Nat) (v:Value):Ex2 p q w (w'.setCell ⟨q,j,none⟩ v):=
 h.trans ⟨rfl,rfl,rfl,by simp [World.setCell],fun k _ hk _=>Below.heap_setCell _ _ _ _ hk⟩
theorem Ex2.drew1 (h:Ex2 p q w w'):Ex2 p q w w'.drew:=h
theorem Ex2.size (h:Ex2 p q w w'):w.heap.size≤w'.heap.size:=h.2.2.2.1
theorem Ex2.cell (h:Ex2 p q w w') {b:Nat} (o:Nat) (hb:b<w.heap.size) (hp:b≠p) (hq:b≠q):w'.cell? ⟨b,o,none⟩=w.cell? ⟨b,o,none⟩:=World.cell?_of_block (w:=w) (h.2.2.2.2 b hp hq hb)
theorem Ex2.frozen (h:Ex2 p q w w') {b:Nat} (o:Nat) (hb:b<w.heap.size) (hp:b≠p) (hq:b≠q):w'.frozen? ⟨b,o,none⟩=w.frozen? ⟨b,o,none⟩:=World.frozen?_of_block (w:=w) (h.2.2.2.2 b hp hq hb)
theorem Below.ex2 {B:Nat} {a:World} (g:Below B a w) (h:Ex2 p q w w') (hp:B≤p) (hq:B≤q) (hs:B≤w.heap.size):Below B a w':=
 g.trans ⟨h.1,h.2.1,h.2.2.1,h.2.2.2.1,fun k hk=>h.2.2.2.2 k (by omega) (by omega) (by omega)⟩
end
def OSl (w:World) (p q:Nat) (k:IntKind) (s:SlV) (xs:List Int):Prop:=ISl w k s.A s.n s.c xs∧∀ad,s.A=some ad→0<s.n→ad.block≠p∧ad.block≠q
section
variable {p q:Nat} {w w':World} {k:IntKind} {s:SlV} {xs:List Int}
theorem OSl.ex (h:OSl w p q k s xs) (g:Ex2 p q w w'):OSl w' p q k s xs:=by
 refine ⟨⟨h.1.1,h.1.2.1,h.1.2.2.1,fun hn=>?_⟩,h.2⟩;obtain ⟨b,off,e,hb,hc⟩:=h.1.2.2.2 hn;have h2:=h.2 _ e hn;exact ⟨b,off,e,Nat.lt_of_lt_of_le hb g.size,fun i hi=>(g.cell (off+i) hb h2.1 h2.2).trans (hc i hi)⟩
end
def vc (V:WV) (t1 t2:SlV):Nat→Value
 |0=>.string (str V.text)
 |1=>.int .i64 V.n
 |2=>.int .u64 V.mac
 |3=>.int .u32 V.addr
 |4=>t1.val
 |_=>t2.val
structure FV (w:World) (p q:Nat) (L:LV) (s1 s2 s3 s4:SlV) (V:WV) (t1 t2:SlV):Prop where
 ne:p≠q
 box:BoxF w p 17 (lc L s1 s2 s3 s4)
 val:BoxF w q 6 (vc V t1 t2)
 l1:OSl w p q .i64 s1 L.tagged
 l2:OSl w p q .i64 s2 L.imports
 l3:OSl w p q .i64 s3 L.exports
 l4:OSl w p q .u32 s4 L.addrs
 v1:OSl w p q .i64 t1 V.list
 v2:OSl w p q .u32 t2 V.addrs
theorem FV.drew1 {w:World} {p q:Nat} {L:LV} {s1 s2 s3 s4:SlV} {V:WV} {t1 t2:SlV} (h:FV w p q L s1 s2 s3 s4 V t1 t2):FV w.drew p q L s1 s2 s3 s4 V t1 t2:=⟨h.ne,h.box,h.val,h.l1,h.l2,h.l3,h.l4,h.v1,h.v2⟩
theorem BoxF.off {w:World} {p n:Nat} {f:Nat→Value} (h:BoxF w p n f) {q j:Nat} {v:Value} (hq:p≠q):BoxF (w.setCell ⟨q,j,none⟩ v) p n f:=
 ⟨fun i hi=>by rw [World.cell?_setCell_other _ _ _ _ (by intro e;injection e with e1 _;exact hq e1.symm)];exact h.1 i hi,fun o=>(World.frozen?_setCell _ _ _ _).trans (h.2 o)⟩
theorem FV.put {w:World} {p q:Nat} {L M:LV} {s1 s2 s3 s4 a1 a2 a3 a4:SlV} {V U:WV} {t1 t2 b1 b2:SlV} (h:FV w p q L s1 s2 s3 s4 V t1 t2) (j i:Nat) (u v:Value) (hj:j<17) (hi:i<6)
 (e1:∀k,k<17→(if k=j then u else lc L s1 s2 s3 s4 k)=lc M a1 a2 a3 a4 k) (e2:∀k,k<6→(if k=i then v else vc V t1 t2 k)=vc U b1 b2 k)
 (k1:OSl w p q .i64 a1 M.tagged) (k2:OSl w p q .i64 a2 M.imports) (k3:OSl w p q .i64 a3 M.exports) (k4:OSl w p q .u32 a4 M.addrs) (k5:OSl w p q .i64 b1 U.list) (k6:OSl w p q .u32 b2 U.addrs):
 FV ((w.setCell ⟨p,j,none⟩ u).setCell ⟨q,i,none⟩ v) p q M a1 a2 a3 a4 U b1 b2∧Ex2 p q w ((w.setCell ⟨p,j,none⟩ u).setCell ⟨q,i,none⟩ v):=by
 have E:Ex2 p q w ((w.setCell ⟨p,j,none⟩ u).setCell ⟨q,i,none⟩ v):=((Ex2.refl p q w).setp j u).setq i v;exact ⟨⟨h.ne,((h.box.set j hj u).is e1).off h.ne,((h.val.off h.ne.symm).set i hi v).is e2,k1.ex E,k2.ex E,k3.ex E,k4.ex E,k5.ex E,k6.ex E⟩,E⟩
theorem FV.putv {w:World} {p q:Nat} {L:LV} {s1 s2 s3 s4:SlV} {V U:WV} {t1 t2:SlV} (h:FV w p q L s1 s2 s3 s4 V t1 t2) (i:Nat) (v:Value) (hi:i<6)
 (e2:∀k,k<6→(if k=i then v else vc V t1 t2 k)=vc U t1 t2 k) (k5:OSl w p q .i64 t1 U.list) (k6:OSl w p q .u32 t2 U.addrs):
 FV (w.setCell ⟨q,i,none⟩ v) p q L s1 s2 s3 s4 U t1 t2∧Ex2 p q w (w.setCell ⟨q,i,none⟩ v):=by
 have E:Ex2 p q w (w.setCell ⟨q,i,none⟩ v):=(Ex2.refl p q w).setq i v;exact ⟨⟨h.ne,h.box.off h.ne,(h.val.set i hi v).is e2,h.l1.ex E,h.l2.ex E,h.l3.ex E,h.l4.ex E,k5.ex E,k6.ex E⟩,E⟩
def FGot (f p q:Nat) (L:LV) (V:WV) (w:World) (e:Ending) (w':World):Prop:=
 e=.returned (.tuple #[])∧∃s1 s2 s3 s4 t1 t2,FV w' p q (vCo f L V) s1 s2 s3 s4 (vBl f L V) t1 t2∧Ex2 p q w w'
theorem FGot.of {f p q:Nat} {L:LV} {V:WV} {w w':World} {s1 s2 s3 s4 t1 t2:SlV} (h:FV w' p q (vCo f L V) s1 s2 s3 s4 (vBl f L V) t1 t2∧Ex2 p q w w'):FGot f p q L V w (.returned (.tuple #[])) w':=
 ⟨rfl,s1,s2,s3,s4,t1,t2,h⟩
theorem fld_dev {w:World} {p q:Nat} {L:LV} {s1 s2 s3 s4:SlV} {V:WV} {t1 t2:SlV} (h:FV w p q L s1 s2 s3 s4 V t1 t2):
 Calls Tryz.prog 138 #[.pointer (some ⟨p,0,none⟩),.pointer (some ⟨q,0,none⟩)] w (FGot 0 p q L V w):=by
 have c1:w.cell? ⟨p,2,none⟩=some (.string (str L.dev)):=h.box.cell 2 (by omega);have f1:w.frozen? ⟨p,2,none⟩=false:=h.box.2 _;have c2:w.cell? ⟨q,0,none⟩=some (.string (str V.text)):=h.val.cell 0 (by omega);have f2:w.frozen? ⟨q,0,none⟩=false:=h.val.2 _;have hne:=h.ne;have H:=hid h;clear h
 go_enter Tryz.func138,Tryz.ntmps138
 go_region
 refine Great.bodyPost_end0 rfl rfl ?_;have K:=H.out.put (M:=vCo 0 L V) (U:=vBl 0 L V) 2 0 (.string (str V.text)) (.string (str L.dev)) (by omega) (by omega) (fun k hk=>match k,hk with|0,_|1,_|2,_|3,_|4,_|5,_|6,_|7,_|8,_|9,_|10,_|11,_|12,_|13,_|14,_|15,_|16,_=>rfl|k+17,h=>absurd h (by omega)) (fun k hk=>match k,hk with|0,_|1,_|2,_|3,_|4,_|5,_=>rfl|k+6,h=>absurd h (by omega)) H.out.l1 H.out.l2 H.out.l3 H.out.l4 H.out.v1 H.out.v2
 exact FGot.of ⟨K.1.drew1,K.2.drew1⟩
theorem fld_port {w:World} {p q:Nat} {L:LV} {s1 s2 s3 s4:SlV} {V:WV} {t1 t2:SlV} (h:FV w p q L s1 s2 s3 s4 V t1 t2):
 Calls Tryz.prog 141 #[.pointer (some ⟨p,0,none⟩),.pointer (some ⟨q,0,none⟩)] w (FGot 1 p q L V w):=by
 have c1:w.cell? ⟨p,3,none⟩=some (.string (str L.port)):=h.box.cell 3 (by omega);have f1:w.frozen? ⟨p,3,none⟩=false:=h.box.2 _;have c2:w.cell? ⟨q,0,none⟩=some (.string (str V.text)):=h.val.cell 0 (by omega);have f2:w.frozen? ⟨q,0,none⟩=false:=h.val.2 _;have hne:=h.ne;have H:=hid h;clear h
 go_enter Tryz.func141,Tryz.ntmps141
 go_region
 refine Great.bodyPost_end0 rfl rfl ?_;have K:=H.out.put (M:=vCo 1 L V) (U:=vBl 1 L V) 3 0 (.string (str V.text)) (.string (str L.port)) (by omega) (by omega) (fun k hk=>match k,hk with|0,_|1,_|2,_|3,_|4,_|5,_|6,_|7,_|8,_|9,_|10,_|11,_|12,_|13,_|14,_|15,_|16,_=>rfl|k+17,h=>absurd h (by omega)) (fun k hk=>match k,hk with|0,_|1,_|2,_|3,_|4,_|5,_=>rfl|k+6,h=>absurd h (by omega)) H.out.l1 H.out.l2 H.out.l3 H.out.l4 H.out.v1 H.out.v2
 exact FGot.of ⟨K.1.drew1,K.2.drew1⟩
theorem fld_peer {w:World} {p q:Nat} {L:LV} {s1 s2 s3 s4:SlV} {V:WV} {t1 t2:SlV} (h:FV w p q L s1 s2 s3 s4 V t1 t2):
 Calls Tryz.prog 146 #[.pointer (some ⟨p,0,none⟩),.pointer (some ⟨q,0,none⟩)] w (FGot 2 p q L V w):=by
 have c1:w.cell? ⟨p,4,none⟩=some (.string (str L.peer)):=h.box.cell 4 (by omega);have f1:w.frozen? ⟨p,4,none⟩=false:=h.box.2 _;have c2:w.cell? ⟨q,0,none⟩=some (.string (str V.text)):=h.val.cell 0 (by omega);have f2:w.frozen? ⟨q,0,none⟩=false:=h.val.2 _;have hne:=h.ne;have H:=hid h;clear h
 go_enter Tryz.func146,Tryz.ntmps146
 go_region
 refine Great.bodyPost_end0 rfl rfl ?_;have K:=H.out.put (M:=vCo 2 L V) (U:=vBl 2 L V) 4 0 (.string (str V.text)) (.string (str L.peer)) (by omega) (by omega) (fun k hk=>match k,hk with|0,_|1,_|2,_|3,_|4,_|5,_|6,_|7,_|8,_|9,_|10,_|11,_|12,_|13,_|14,_|15,_|16,_=>rfl|k+17,h=>absurd h (by omega)) (fun k hk=>match k,hk with|0,_|1,_|2,_|3,_|4,_|5,_=>rfl|k+6,h=>absurd h (by omega)) H.out.l1 H.out.l2 H.out.l3 H.out.l4 H.out.v1 H.out.v2
 exact FGot.of ⟨K.1.drew1,K.2.drew1⟩
theorem fld_far {w:World} {p q:Nat} {L:LV} {s1 s2 s3 s4:SlV} {V:WV} {t1 t2:SlV} (h:FV w p q L s1 s2 s3 s4 V t1 t2):
 Calls Tryz.prog 147 #[.pointer (some ⟨p,0,none⟩),.pointer (some ⟨q,0,none⟩)] w (FGot 3 p q L V w):=by
 have c1:w.cell? ⟨p,5,none⟩=some (.string (str L.far)):=h.box.cell 5 (by omega);have f1:w.frozen? ⟨p,5,none⟩=false:=h.box.2 _;have c2:w.cell? ⟨q,0,none⟩=some (.string (str V.text)):=h.val.cell 0 (by omega);have f2:w.frozen? ⟨q,0,none⟩=false:=h.val.2 _;have hne:=h.ne;have H:=hid h;clear h
 go_enter Tryz.func147,Tryz.ntmps147
 go_region
 refine Great.bodyPost_end0 rfl rfl ?_;have K:=H.out.put (M:=vCo 3 L V) (U:=vBl 3 L V) 5 0 (.string (str V.text)) (.string (str L.far)) (by omega) (by omega) (fun k hk=>match k,hk with|0,_|1,_|2,_|3,_|4,_|5,_|6,_|7,_|8,_|9,_|10,_|11,_|12,_|13,_|14,_|15,_|16,_=>rfl|k+17,h=>absurd h (by omega)) (fun k hk=>match k,hk with|0,_|1,_|2,_|3,_|4,_|5,_=>rfl|k+6,h=>absurd h (by omega)) H.out.l1 H.out.l2 H.out.l3 H.out.l4 H.out.v1 H.out.v2
 exact FGot.of ⟨K.1.drew1,K.2.drew1⟩
theorem fld_name {w:World} {p q:Nat} {L:LV} {s1 s2 s3 s4:SlV} {V:WV} {t1 t2:SlV} (h:FV w p q L s1 s2 s3 s4 V t1 t2):
 Calls Tryz.prog 150 #[.pointer (some ⟨p,0,none⟩),.pointer (some ⟨q,0,none⟩)] w (FGot 4 p q L V w):=by
 have c1:w.cell? ⟨p,6,none⟩=some (.string (str L.name)):=h.box.cell 6 (by omega);have f1:w.frozen? ⟨p,6,none⟩=false:=h.box.2 _;have c2:w.cell? ⟨q,0,none⟩=some (.string (str V.text)):=h.val.cell 0 (by omega);have f2:w.frozen? ⟨q,0,none⟩=false:=h.val.2 _;have hne:=h.ne;have H:=hid h;clear h
 go_enter Tryz.func150,Tryz.ntmps150
 go_region
 refine Great.bodyPost_end0 rfl rfl ?_;have K:=H.out.put (M:=vCo 4 L V) (U:=vBl 4 L V) 6 0 (.string (str V.text)) (.string (str L.name)) (by omega) (by omega) (fun k hk=>match k,hk with|0,_|1,_|2,_|3,_|4,_|5,_|6,_|7,_|8,_|9,_|10,_|11,_|12,_|13,_|14,_|15,_|16,_=>rfl|k+17,h=>absurd h (by omega)) (fun k hk=>match k,hk with|0,_|1,_|2,_|3,_|4,_|5,_=>rfl|k+6,h=>absurd h (by omega)) H.out.l1 H.out.l2 H.out.l3 H.out.l4 H.out.v1 H.out.v2
 exact FGot.of ⟨K.1.drew1,K.2.drew1⟩
theorem fld_number {w:World} {p q:Nat} {L:LV} {s1 s2 s3 s4:SlV} {V:WV} {t1 t2:SlV} (h:FV w p q L s1 s2 s3 s4 V t1 t2):
 Calls Tryz.prog 139 #[.pointer (some ⟨p,0,none⟩),.pointer (some ⟨q,0,none⟩)] w (FGot 6 p q L V w):=by
 have c1:w.cell? ⟨p,11,none⟩=some (.int .i64 L.num):=h.box.cell 11 (by omega);have f1:w.frozen? ⟨p,11,none⟩=false:=h.box.2 _;have c2:w.cell? ⟨q,1,none⟩=some (.int .i64 V.n):=h.val.cell 1 (by omega);have f2:w.frozen? ⟨q,1,none⟩=false:=h.val.2 _;have hne:=h.ne;have H:=hid h;clear h
 go_enter Tryz.func139,Tryz.ntmps139
 go_region
 refine Great.bodyPost_end0 rfl rfl ?_;have K:=H.out.put (M:=vCo 6 L V) (U:=vBl 6 L V) 11 1 (.int .i64 V.n) (.int .i64 L.num) (by omega) (by omega) (fun k hk=>match k,hk with|0,_|1,_|2,_|3,_|4,_|5,_|6,_|7,_|8,_|9,_|10,_|11,_|12,_|13,_|14,_|15,_|16,_=>rfl|k+17,h=>absurd h (by omega)) (fun k hk=>match k,hk with|0,_|1,_|2,_|3,_|4,_|5,_=>rfl|k+6,h=>absurd h (by omega)) H.out.l1 H.out.l2 H.out.l3 H.out.l4 H.out.v1 H.out.v2
 exact FGot.of ⟨K.1.drew1,K.2.drew1⟩
theorem fld_vlan {w:World} {p q:Nat} {L:LV} {s1 s2 s3 s4:SlV} {V:WV} {t1 t2:SlV} (h:FV w p q L s1 s2 s3 s4 V t1 t2):
 Calls Tryz.prog 144 #[.pointer (some ⟨p,0,none⟩),.pointer (some ⟨q,0,none⟩)] w (FGot 7 p q L V w):=by
 have c1:w.cell? ⟨p,10,none⟩=some (.int .i64 L.vlan):=h.box.cell 10 (by omega);have f1:w.frozen? ⟨p,10,none⟩=false:=h.box.2 _;have c2:w.cell? ⟨q,1,none⟩=some (.int .i64 V.n):=h.val.cell 1 (by omega);have f2:w.frozen? ⟨q,1,none⟩=false:=h.val.2 _;have hne:=h.ne;have H:=hid h;clear h
 go_enter Tryz.func144,Tryz.ntmps144
 go_region
 refine Great.bodyPost_end0 rfl rfl ?_;have K:=H.out.put (M:=vCo 7 L V) (U:=vBl 7 L V) 10 1 (.int .i64 V.n) (.int .i64 L.vlan) (by omega) (by omega) (fun k hk=>match k,hk with|0,_|1,_|2,_|3,_|4,_|5,_|6,_|7,_|8,_|9,_|10,_|11,_|12,_|13,_|14,_|15,_|16,_=>rfl|k+17,h=>absurd h (by omega)) (fun k hk=>match k,hk with|0,_|1,_|2,_|3,_|4,_|5,_=>rfl|k+6,h=>absurd h (by omega)) H.out.l1 H.out.l2 H.out.l3 H.out.l4 H.out.v1 H.out.v2
 exact FGot.of ⟨K.1.drew1,K.2.drew1⟩
theorem fld_cost {w:World} {p q:Nat} {L:LV} {s1 s2 s3 s4:SlV} {V:WV} {t1 t2:SlV} (h:FV w p q L s1 s2 s3 s4 V t1 t2):
 Calls Tryz.prog 142 #[.pointer (some ⟨p,0,none⟩),.pointer (some ⟨q,0,none⟩)] w (FGot 8 p q L V w):=by
 have c1:w.cell? ⟨p,12,none⟩=some (.int .i64 L.cost):=h.box.cell 12 (by omega);have f1:w.frozen? ⟨p,12,none⟩=false:=h.box.2 _;have c2:w.cell? ⟨q,1,none⟩=some (.int .i64 V.n):=h.val.cell 1 (by omega);have f2:w.frozen? ⟨q,1,none⟩=false:=h.val.2 _;have hne:=h.ne;have H:=hid h;clear h
 go_enter Tryz.func142,Tryz.ntmps142
 go_region
 refine Great.bodyPost_end0 rfl rfl ?_;have K:=H.out.put (M:=vCo 8 L V) (U:=vBl 8 L V) 12 1 (.int .i64 V.n) (.int .i64 L.cost) (by omega) (by omega) (fun k hk=>match k,hk with|0,_|1,_|2,_|3,_|4,_|5,_|6,_|7,_|8,_|9,_|10,_|11,_|12,_|13,_|14,_|15,_|16,_=>rfl|k+17,h=>absurd h (by omega)) (fun k hk=>match k,hk with|0,_|1,_|2,_|3,_|4,_|5,_=>rfl|k+6,h=>absurd h (by omega)) H.out.l1 H.out.l2 H.out.l3 H.out.l4 H.out.v1 H.out.v2
 exact FGot.of ⟨K.1.drew1,K.2.drew1⟩
theorem fld_mac {w:World} {p q:Nat} {L:LV} {s1 s2 s3 s4:SlV} {V:WV} {t1 t2:SlV} (h:FV w p q L s1 s2 s3 s4 V t1 t2):
 Calls Tryz.prog 140 #[.pointer (some ⟨p,0,none⟩),.pointer (some ⟨q,0,none⟩)] w (FGot 9 p q L V w):=by
 have c1:w.cell? ⟨p,7,none⟩=some (.int .u64 L.mac):=h.box.cell 7 (by omega);have f1:w.frozen? ⟨p,7,none⟩=false:=h.box.2 _;have c2:w.cell? ⟨q,2,none⟩=some (.int .u64 V.mac):=h.val.cell 2 (by omega);have f2:w.frozen? ⟨q,2,none⟩=false:=h.val.2 _;have hne:=h.ne;have H:=hid h;clear h
 go_enter Tryz.func140,Tryz.ntmps140
 go_region
 refine Great.bodyPost_end0 rfl rfl ?_;have K:=H.out.put (M:=vCo 9 L V) (U:=vBl 9 L V) 7 2 (.int .u64 V.mac) (.int .u64 L.mac) (by omega) (by omega) (fun k hk=>match k,hk with|0,_|1,_|2,_|3,_|4,_|5,_|6,_|7,_|8,_|9,_|10,_|11,_|12,_|13,_|14,_|15,_|16,_=>rfl|k+17,h=>absurd h (by omega)) (fun k hk=>match k,hk with|0,_|1,_|2,_|3,_|4,_|5,_=>rfl|k+6,h=>absurd h (by omega)) H.out.l1 H.out.l2 H.out.l3 H.out.l4 H.out.v1 H.out.v2
 exact FGot.of ⟨K.1.drew1,K.2.drew1⟩
theorem fld_addr {w:World} {p q:Nat} {L:LV} {s1 s2 s3 s4:SlV} {V:WV} {t1 t2:SlV} (h:FV w p q L s1 s2 s3 s4 V t1 t2):
 Calls Tryz.prog 148 #[.pointer (some ⟨p,0,none⟩),.pointer (some ⟨q,0,none⟩)] w (FGot 10 p q L V w):=by
 have c1:w.cell? ⟨p,8,none⟩=some (.int .u32 L.addr):=h.box.cell 8 (by omega);have f1:w.frozen? ⟨p,8,none⟩=false:=h.box.2 _;have c2:w.cell? ⟨q,3,none⟩=some (.int .u32 V.addr):=h.val.cell 3 (by omega);have f2:w.frozen? ⟨q,3,none⟩=false:=h.val.2 _;have hne:=h.ne;have H:=hid h;clear h
 go_enter Tryz.func148,Tryz.ntmps148
 go_region
 refine Great.bodyPost_end0 rfl rfl ?_;have K:=H.out.put (M:=vCo 10 L V) (U:=vBl 10 L V) 8 3 (.int .u32 V.addr) (.int .u32 L.addr) (by omega) (by omega) (fun k hk=>match k,hk with|0,_|1,_|2,_|3,_|4,_|5,_|6,_|7,_|8,_|9,_|10,_|11,_|12,_|13,_|14,_|15,_|16,_=>rfl|k+17,h=>absurd h (by omega)) (fun k hk=>match k,hk with|0,_|1,_|2,_|3,_|4,_|5,_=>rfl|k+6,h=>absurd h (by omega)) H.out.l1 H.out.l2 H.out.l3 H.out.l4 H.out.v1 H.out.v2
 exact FGot.of ⟨K.1.drew1,K.2.drew1⟩
theorem fld_tagged {w:World} {p q:Nat} {L:LV} {s1 s2 s3 s4:SlV} {V:WV} {t1 t2:SlV} (h:FV w p q L s1 s2 s3 s4 V t1 t2):
 Calls Tryz.prog 145 #[.pointer (some ⟨p,0,none⟩),.pointer (some ⟨q,0,none⟩)] w (FGot 12 p q L V w):=by
 have c1:w.cell? ⟨p,13,none⟩=some (.slice s1.A s1.n s1.c):=h.box.cell 13 (by omega);have f1:w.frozen? ⟨p,13,none⟩=false:=h.box.2 _;have c2:w.cell? ⟨q,4,none⟩=some (.slice t1.A t1.n t1.c):=h.val.cell 4 (by omega);have f2:w.frozen? ⟨q,4,none⟩=false:=h.val.2 _;have hne:=h.ne;have H:=hid h;clear h
 go_enter Tryz.func145,Tryz.ntmps145
 go_region
 refine Great.bodyPost_end0 rfl rfl ?_;have K:=H.out.put (M:=vCo 12 L V) (U:=vBl 12 L V) 13 4 (.slice t1.A t1.n t1.c) (.slice s1.A s1.n s1.c) (by omega) (by omega) (fun k hk=>match k,hk with|0,_|1,_|2,_|3,_|4,_|5,_|6,_|7,_|8,_|9,_|10,_|11,_|12,_|13,_|14,_|15,_|16,_=>rfl|k+17,h=>absurd h (by omega)) (fun k hk=>match k,hk with|0,_|1,_|2,_|3,_|4,_|5,_=>rfl|k+6,h=>absurd h (by omega)) H.out.v1 H.out.l2 H.out.l3 H.out.l4 H.out.l1 H.out.v2
 exact FGot.of ⟨K.1.drew1,K.2.drew1⟩
theorem fld_imports {w:World} {p q:Nat} {L:LV} {s1 s2 s3 s4:SlV} {V:WV} {t1 t2:SlV} (h:FV w p q L s1 s2 s3 s4 V t1 t2):
 Calls Tryz.prog 151 #[.pointer (some ⟨p,0,none⟩),.pointer (some ⟨q,0,none⟩)] w (FGot 13 p q L V w):=by
 have c1:w.cell? ⟨p,14,none⟩=some (.slice s2.A s2.n s2.c):=h.box.cell 14 (by omega);have f1:w.frozen? ⟨p,14,none⟩=false:=h.box.2 _;have c2:w.cell? ⟨q,4,none⟩=some (.slice t1.A t1.n t1.c):=h.val.cell 4 (by omega);have f2:w.frozen? ⟨q,4,none⟩=false:=h.val.2 _;have hne:=h.ne;have H:=hid h;clear h
 go_enter Tryz.func151,Tryz.ntmps151
 go_region
 refine Great.bodyPost_end0 rfl rfl ?_;have K:=H.out.put (M:=vCo 13 L V) (U:=vBl 13 L V) 14 4 (.slice t1.A t1.n t1.c) (.slice s2.A s2.n s2.c) (by omega) (by omega) (fun k hk=>match k,hk with|0,_|1,_|2,_|3,_|4,_|5,_|6,_|7,_|8,_|9,_|10,_|11,_|12,_|13,_|14,_|15,_|16,_=>rfl|k+17,h=>absurd h (by omega)) (fun k hk=>match k,hk with|0,_|1,_|2,_|3,_|4,_|5,_=>rfl|k+6,h=>absurd h (by omega)) H.out.l1 H.out.v1 H.out.l3 H.out.l4 H.out.l2 H.out.v2
 exact FGot.of ⟨K.1.drew1,K.2.drew1⟩
theorem fld_exports {w:World} {p q:Nat} {L:LV} {s1 s2 s3 s4:SlV} {V:WV} {t1 t2:SlV} (h:FV w p q L s1 s2 s3 s4 V t1 t2):
 Calls Tryz.prog 152 #[.pointer (some ⟨p,0,none⟩),.pointer (some ⟨q,0,none⟩)] w (FGot 14 p q L V w):=by
 have c1:w.cell? ⟨p,15,none⟩=some (.slice s3.A s3.n s3.c):=h.box.cell 15 (by omega);have f1:w.frozen? ⟨p,15,none⟩=false:=h.box.2 _;have c2:w.cell? ⟨q,4,none⟩=some (.slice t1.A t1.n t1.c):=h.val.cell 4 (by omega);have f2:w.frozen? ⟨q,4,none⟩=false:=h.val.2 _;have hne:=h.ne;have H:=hid h;clear h
 go_enter Tryz.func152,Tryz.ntmps152
 go_region
 refine Great.bodyPost_end0 rfl rfl ?_;have K:=H.out.put (M:=vCo 14 L V) (U:=vBl 14 L V) 15 4 (.slice t1.A t1.n t1.c) (.slice s3.A s3.n s3.c) (by omega) (by omega) (fun k hk=>match k,hk with|0,_|1,_|2,_|3,_|4,_|5,_|6,_|7,_|8,_|9,_|10,_|11,_|12,_|13,_|14,_|15,_|16,_=>rfl|k+17,h=>absurd h (by omega)) (fun k hk=>match k,hk with|0,_|1,_|2,_|3,_|4,_|5,_=>rfl|k+6,h=>absurd h (by omega)) H.out.l1 H.out.l2 H.out.v1 H.out.l4 H.out.l3 H.out.v2
 exact FGot.of ⟨K.1.drew1,K.2.drew1⟩
theorem fld_addrs {w:World} {p q:Nat} {L:LV} {s1 s2 s3 s4:SlV} {V:WV} {t1 t2:SlV} (h:FV w p q L s1 s2 s3 s4 V t1 t2):
 Calls Tryz.prog 149 #[.pointer (some ⟨p,0,none⟩),.pointer (some ⟨q,0,none⟩)] w (FGot 15 p q L V w):=by
 have c1:w.cell? ⟨p,16,none⟩=some (.slice s4.A s4.n s4.c):=h.box.cell 16 (by omega);have f1:w.frozen? ⟨p,16,none⟩=false:=h.box.2 _;have c2:w.cell? ⟨q,5,none⟩=some (.slice t2.A t2.n t2.c):=h.val.cell 5 (by omega);have f2:w.frozen? ⟨q,5,none⟩=false:=h.val.2 _;have hne:=h.ne;have H:=hid h;clear h
 go_enter Tryz.func149,Tryz.ntmps149
 go_region
 refine Great.bodyPost_end0 rfl rfl ?_;have K:=H.out.put (M:=vCo 15 L V) (U:=vBl 15 L V) 16 5 (.slice t2.A t2.n t2.c) (.slice s4.A s4.n s4.c) (by omega) (by omega) (fun k hk=>match k,hk with|0,_|1,_|2,_|3,_|4,_|5,_|6,_|7,_|8,_|9,_|10,_|11,_|12,_|13,_|14,_|15,_|16,_=>rfl|k+17,h=>absurd h (by omega)) (fun k hk=>match k,hk with|0,_|1,_|2,_|3,_|4,_|5,_=>rfl|k+6,h=>absurd h (by omega)) H.out.l1 H.out.l2 H.out.l3 H.out.v2 H.out.v1 H.out.l4
 exact FGot.of ⟨K.1.drew1,K.2.drew1⟩
theorem fld_mode {w:World} {p q:Nat} {L:LV} {s1 s2 s3 s4:SlV} {V:WV} {t1 t2:SlV} (h:FV w p q L s1 s2 s3 s4 V t1 t2):
 Calls Tryz.prog 143 #[.pointer (some ⟨p,0,none⟩),.pointer (some ⟨q,0,none⟩)] w (FGot 5 p q L V w):=by
 have c2:w.cell? ⟨q,0,none⟩=some (.string (str V.text)):=h.val.cell 0 (by omega);have f2:w.frozen? ⟨q,0,none⟩=false:=h.val.2 _;have H:=hid h;clear h
 go_enter Tryz.func143,Tryz.ntmps143
 go_wp2;refine Great.bodyPost_end0 rfl rfl ?_;exact FGot.of (H.out.putv (U:=vBl 5 L V) 0 (.string ⟨#[116,114,117,110,107]⟩) (by omega) (fun k hk=>match k,hk with|0,_|1,_|2,_|3,_|4,_|5,_=>rfl|k+6,h=>absurd h (by omega)) H.out.v1 H.out.v2)
theorem fld_prefix {w:World} {p q:Nat} {L:LV} {s1 s2 s3 s4:SlV} {V:WV} {t1 t2:SlV} (h:FV w p q L s1 s2 s3 s4 V t1 t2):
 Calls Tryz.prog 153 #[.pointer (some ⟨p,0,none⟩),.pointer (some ⟨q,0,none⟩)] w (FGot 11 p q L V w):=by
 have hne:=h.ne;have H:=hid h;clear h
 go_enter Tryz.func153,Tryz.ntmps153
 go_wp2_with (go_at_call 148;(with_reducible refine (fld_addr H.out).mono ?_);rintro e w1 ⟨rfl,a1,a2,a3,a4,b1,b2,G,E⟩);have c1:w1.cell? ⟨p,9,none⟩=some (.int .i64 L.bits):=G.box.cell 9 (by omega);have f1:w1.frozen? ⟨p,9,none⟩=false:=G.box.2 _;have c2:w1.cell? ⟨q,1,none⟩=some (.int .i64 V.n):=G.val.cell 1 (by omega);have f2:w1.frozen? ⟨q,1,none⟩=false:=G.val.2 _;have GG:=hid G;have EE:=hid E
 clear G E
 go_region
 refine Great.bodyPost_end0 rfl rfl ?_;have K:=GG.out.put (M:=vCo 11 L V) (U:=vBl 11 L V) 9 1 (.int .i64 V.n) (.int .i64 L.bits) (by omega) (by omega) (fun k hk=>match k,hk with|0,_|1,_|2,_|3,_|4,_|5,_|6,_|7,_|8,_|9,_|10,_|11,_|12,_|13,_|14,_|15,_|16,_=>rfl|k+17,h=>absurd h (by omega)) (fun k hk=>match k,hk with|0,_|1,_|2,_|3,_|4,_|5,_=>rfl|k+6,h=>absurd h (by omega)) GG.out.l1 GG.out.l2 GG.out.l3 GG.out.l4 GG.out.v1 GG.out.v2
 exact FGot.of ⟨K.1.drew1,EE.out.trans K.2.drew1⟩
def fnum:Nat→Nat
 |0=>138
 |1=>141
 |2=>146
 |3=>147
 |4=>150
 |5=>143
 |6=>139
 |7=>144
 |8=>142
 |9=>140
 |10=>148
 |11=>153
 |12=>145
 |13=>151
 |14=>152
 |_=>149
theorem fld_any {w:World} {p q:Nat} {L:LV} {s1 s2 s3 s4:SlV} {V:WV} {t1 t2:SlV} (f:Nat) (hf:f<16) (h:FV w p q L s1 s2 s3 s4 V t1 t2):
 Calls Tryz.prog (fnum f) #[.pointer (some ⟨p,0,none⟩),.pointer (some ⟨q,0,none⟩)] w (FGot f p q L V w):=by
 match f,hf with
 |0,_=>exact fld_dev h
 |1,_=>exact fld_port h
 |2,_=>exact fld_peer h
 |3,_=>exact fld_far h
 |4,_=>exact fld_name h
 |5,_=>exact fld_mode h
 |6,_=>exact fld_number h
 |7,_=>exact fld_vlan h
 |8,_=>exact fld_cost h
 |9,_=>exact fld_mac h
 |10,_=>exact fld_addr h
 |11,_=>exact fld_prefix h
 |12,_=>exact fld_tagged h
 |13,_=>exact fld_imports h
 |14,_=>exact fld_exports h
 |15,_=>exact fld_addrs h
 |f+16,h=>exact absurd h (by omega)
def fval (f p:Nat):Value:=.func (.func (fnum f)) #[.pointer (some ⟨p,0,none⟩)] #[]
end Go.Proofs.YtkpbbfehglihlaaGreatDoor
