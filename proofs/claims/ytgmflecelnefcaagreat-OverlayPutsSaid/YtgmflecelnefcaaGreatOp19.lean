import Derived.Test.YtgmflecelnefcaaGreatOp17
import Derived.Test.YtgmflecelnefcaaGreatOp18
import Derived.Test.YtgmflecelnefcaaGreatOp11
import Derived.RegionTactic
set_option maxRecDepth 100000
set_option maxHeartbeats 40000000
namespace Go.Proofs.YtgmflecelnefcaaGreat
open Go.Lib (hid)
open Go.RowKit
open Go.Lib (itoa)
def wnS (n:Int):List UInt8:=itoa n
def wmS (m:Int):List UInt8:=(Mac.textPre m 6).map fun n=>UInt8.ofNat n.toNat
def waS (a:Int):List UInt8:=txt a.toNat
def wlS (f:Int→List UInt8) (xs:List Int):List UInt8:=if xs=[] then dash else jn f xs
def wpS (a b:Int):List UInt8:=ptxt a.toNat b.toNat
def sDevice:List UInt8:=[100,101,118,105,99,101]
def sLink:List UInt8:=[108,105,110,107]
def sStatic:List UInt8:=[115,116,97,116,105,99]
def vFb:List UInt8:=[118,116,101,112]
def sVni:List UInt8:=[118,110,105]
def vCl:List UInt8:=[102,108,111,111,100]
def sVrf:List UInt8:=[118,114,102]
def sIrb:List UInt8:=[105,114,98]
def wrW (L:LV):List (List UInt8):=
 if L.kind=1 then [sDevice,L.dev,wnS L.num,wmS L.mac]
 else if L.kind=2 then (if L.tagged=[] then [sPort,L.dev,L.port,wnS L.cost,vDe,wnS L.vlan] else [sPort,L.dev,L.port,wnS L.cost,vEy,if L.vlan=0 then dash else wnS L.vlan,jn wnS L.tagged])
 else if L.kind=3 then [sLink,L.dev,L.port,L.peer,L.far]
 else if L.kind=4 then [sStatic,L.dev,wnS L.vlan,wmS L.mac,L.port]
 else if L.kind=5 then [vFb,L.dev,waS L.addr]
 else if L.kind=6 then [sVni,L.dev,wnS L.vlan,wnS L.num]
 else if L.kind=7 then [vCl,L.dev,wnS L.num,jn waS L.addrs]
 else if L.kind=8 then [sVrf,L.dev,L.name,wlS wnS L.imports,wlS wnS L.exports]
 else if L.kind=9 then [sIrb,L.dev,wnS L.vlan,L.name,wpS L.addr L.bits]
 else []
structure WV where
 text:List UInt8
 n:Int
 mac:Int
 addr:Int
 list:List Int
 addrs:List Int
def WV.zero:WV:=⟨[],0,0,0,[],[]⟩
def vCi:Nat→LV→WV→LV
 |0,L,V=>{L with dev:=V.text}
 |1,L,V=>{L with port:=V.text}
 |2,L,V=>{L with peer:=V.text}
 |3,L,V=>{L with far:=V.text}
 |4,L,V=>{L with name:=V.text}
 |5,L,_=>L
 |6,L,V=>{L with num:=V.n}
 |7,L,V=>{L with vlan:=V.n}
 |8,L,V=>{L with cost:=V.n}
 |9,L,V=>{L with mac:=V.mac}
 |10,L,V=>{L with addr:=V.addr}
 |11,L,V=>{L with addr:=V.addr,bits:=V.n}
 |12,L,V=>{L with tagged:=V.list}
 |13,L,V=>{L with imports:=V.list}
 |14,L,V=>{L with exports:=V.list}
 |15,L,V=>{L with addrs:=V.addrs}
 |_,L,_=>L
def vBl:Nat→LV→WV→WV
 |0,L,V=>{V with text:=L.dev}
 |1,L,V=>{V with text:=L.port}
 |2,L,V=>{V with text:=L.peer}
 |3,L,V=>{V with text:=L.far}
 |4,L,V=>{V with text:=L.name}
 |5,_,V=>{V with text:=[116,114,117,110,107]}
 |6,L,V=>{V with n:=L.num}
 |7,L,V=>{V with n:=L.vlan}
 |8,L,V=>{V with n:=L.cost}
 |9,L,V=>{V with mac:=L.mac}
 |10,L,V=>{V with addr:=L.addr}
 |11,L,V=>{V with addr:=L.addr,n:=L.bits}
 |12,L,V=>{V with list:=L.tagged}
 |13,L,V=>{V with list:=L.imports}
 |14,L,V=>{V with list:=L.exports}
 |15,L,V=>{V with addrs:=L.addrs}
 |_,_,V=>V
def Ex2 (p q:Nat) (w w':World):Prop:=w'.os=w.os∧w'.tape=w.tape∧w'.output=w.output∧w.heap.size≤w'.heap.size∧∀k,k≠p→k≠q→k<w.heap.size→w'.heap[k]?=w.heap[k]?
section
variable {p q:Nat} {w w' w'':World}
theorem Ex2.of_below (h:Below w.heap.size w w'):Ex2 p q w w':=⟨h.os,h.tape,h.output,h.size,fun k _ _ hk=>h.block k hk⟩
theorem Ex2.refl (p q:Nat) (w:World):Ex2 p q w w:=Ex2.of_below (Below.refl _ _)
theorem Ex2.trans (h:Ex2 p q w w') (g:Ex2 p q w' w''):Ex2 p q w w'':=by
 obtain ⟨h0,h1,h2,h3,h4⟩:=h;obtain ⟨g0,g1,g2,g3,g4⟩:=g;exact ⟨g0.trans h0,g1.trans h1,g2.trans h2,Nat.le_trans h3 g3,fun k hp hq hk=>(g4 k hp hq (by omega)).trans (h4 k hp hq hk)⟩
theorem Ex2.setp (h:Ex2 p q w w') (j:Nat) (v:Value):Ex2 p q w (w'.setCell ⟨p,j,none⟩ v):=
 h.trans ⟨rfl,rfl,rfl,by simp [World.setCell],fun k hk _ _=>Below.heap_setCell _ _ _ _ hk⟩
theorem Ex2.setq (h:Ex2 p q w w') (j:Nat) (v:Value):Ex2 p q w (w'.setCell ⟨q,j,none⟩ v):=
 h.trans ⟨rfl,rfl,rfl,by simp [World.setCell],fun k _ hk _=>Below.heap_setCell _ _ _ _ hk⟩
theorem Ex2.drew1 (h:Ex2 p q w w'):Ex2 p q w w'.drew:=h
theorem Ex2.size (h:Ex2 p q w w'):w.heap.size≤w'.heap.size:=h.2.2.2.1
theorem Ex2.cell (h:Ex2 p q w w') {b:Nat} (o:Nat) (hb:b<w.heap.size) (hp:b≠p) (hq:b≠q):w'.cell? ⟨b,o,none⟩=w.cell? ⟨b,o,none⟩:=World.cell?_of_block (w:=w) (h.2.2.2.2 b hp hq hb)
theorem Ex2.frozen (h:Ex2 p q w w') {b:Nat} (o:Nat) (hb:b<w.heap.size) (hp:b≠p) (hq:b≠q):w'.frozen? ⟨b,o,none⟩=w.frozen? ⟨b,o,none⟩:=World.frozen?_of_block (w:=w) (h.2.2.2.2 b hp hq hb)
theorem Below.ex2 {B:Nat} {a:World} (g:Below B a w) (h:Ex2 p q w w') (hp:B≤p) (hq:B≤q) (hs:B≤w.heap.size):Below B a w':=
 g.trans ⟨h.1,h.2.1,h.2.2.1,h.2.2.2.1,fun k hk=>h.2.2.2.2 k (by omega) (by omega) (by omega)⟩
end
def OSl (w:World) (p q:Nat) (k:IntKind) (s:SlV) (xs:List Int):Prop:=ISl w k s.A s.n s.c xs∧∀ad,s.A=some ad→0<s.n→ad.block≠p∧ad.block≠q
section
variable {p q:Nat} {w w':World} {k:IntKind} {s:SlV} {xs:List Int}
theorem OSl.ex (h:OSl w p q k s xs) (g:Ex2 p q w w'):OSl w' p q k s xs:=by
 refine ⟨⟨h.1.1,h.1.2.1,h.1.2.2.1,fun hn=>?_⟩,h.2⟩;obtain ⟨b,off,e,hb,hc⟩:=h.1.2.2.2 hn;have h2:=h.2 _ e hn;exact ⟨b,off,e,Nat.lt_of_lt_of_le hb g.size,fun i hi=>(g.cell (off+i) hb h2.1 h2.2).trans (hc i hi)⟩
end
def vc (V:WV) (t1 t2:SlV):Nat→Value
 |0=>.string (str V.text)
 |1=>.int .i64 V.n
 |2=>.int .u64 V.mac
 |3=>.int .u32 V.addr
 |4=>t1.val
 |_=>t2.val
structure FV (w:World) (p q:Nat) (L:LV) (s1 s2 s3 s4:SlV) (V:WV) (t1 t2:SlV):Prop where
 ne:p≠q
 box:BoxF w p 17 (lc L s1 s2 s3 s4)
 val:BoxF w q 6 (vc V t1 t2)
 l1:OSl w p q .i64 s1 L.tagged
 l2:OSl w p q .i64 s2 L.imports
 l3:OSl w p q .i64 s3 L.exports
 l4:OSl w p q .u32 s4 L.addrs
 v1:OSl w p q .i64 t1 V.list
 v2:OSl w p q .u32 t2 V.addrs
theorem FV.drew1 {w:World} {p q:Nat} {L:LV} {s1 s2 s3 s4:SlV} {V:WV} {t1 t2:SlV} (h:FV w p q L s1 s2 s3 s4 V t1 t2):FV w.drew p q L s1 s2 s3 s4 V t1 t2:=⟨h.ne,h.box,h.val,h.l1,h.l2,h.l3,h.l4,h.v1,h.v2⟩
theorem BoxF.off {w:World} {p n:Nat} {f:Nat→Value} (h:BoxF w p n f) {q j:Nat} {v:Value} (hq:p≠q):BoxF (w.setCell ⟨q,j,none⟩ v) p n f:=
 ⟨fun i hi=>by rw [World.cell?_setCell_other _ _ _ _ (by intro e;injection e with e1 _;exact hq e1.symm)];exact h.1 i hi,fun o=>(World.frozen?_setCell _ _ _ _).trans (h.2 o)⟩
theorem FV.put {w:World} {p q:Nat} {L M:LV} {s1 s2 s3 s4 a1 a2 a3 a4:SlV} {V U:WV} {t1 t2 b1 b2:SlV} (h:FV w p q L s1 s2 s3 s4 V t1 t2) (j i:Nat) (u v:Value) (hj:j<17) (hi:i<6)
 (e1:∀k,k<17→(if k=j then u else lc L s1 s2 s3 s4 k)=lc M a1 a2 a3 a4 k) (e2:∀k,k<6→(if k=i then v else vc V t1 t2 k)=vc U b1 b2 k)
 (k1:OSl w p q .i64 a1 M.tagged) (k2:OSl w p q .i64 a2 M.imports) (k3:OSl w p q .i64 a3 M.exports) (k4:OSl w p q .u32 a4 M.addrs) (k5:OSl w p q .i64 b1 U.list) (k6:OSl w p q .u32 b2 U.addrs):
 FV ((w.setCell ⟨p,j,none⟩ u).setCell ⟨q,i,none⟩ v) p q M a1 a2 a3 a4 U b1 b2∧Ex2 p q w ((w.setCell ⟨p,j,none⟩ u).setCell ⟨q,i,none⟩ v):=by
 have E:Ex2 p q w ((w.setCell ⟨p,j,none⟩ u).setCell ⟨q,i,none⟩ v):=((Ex2.refl p q w).setp j u).setq i v;exact ⟨⟨h.ne,((h.box.set j hj u).is e1).off h.ne,((h.val.off h.ne.symm).set i hi v).is e2,k1.ex E,k2.ex E,k3.ex E,k4.ex E,k5.ex E,k6.ex E⟩,E⟩
theorem FV.putv {w:World} {p q:Nat} {L:LV} {s1 s2 s3 s4:SlV} {V U:WV} {t1 t2:SlV} (h:FV w p q L s1 s2 s3 s4 V t1 t2) (i:Nat) (v:Value) (hi:i<6)
 (e2:∀k,k<6→(if k=i then v else vc V t1 t2 k)=vc U t1 t2 k) (k5:OSl w p q .i64 t1 U.list) (k6:OSl w p q .u32 t2 U.addrs):
 FV (w.setCell ⟨q,i,none⟩ v) p q L s1 s2 s3 s4 U t1 t2∧Ex2 p q w (w.setCell ⟨q,i,none⟩ v):=by
 have E:Ex2 p q w (w.setCell ⟨q,i,none⟩ v):=(Ex2.refl p q w).setq i v;exact ⟨⟨h.ne,h.box.off h.ne,(h.val.set i hi v).is e2,h.l1.ex E,h.l2.ex E,h.l3.ex E,h.l4.ex E,k5.ex E,k6.ex E⟩,E⟩
def FGot (f p q:Nat) (L:LV) (V:WV) (w:World) (e:Ending) (w':World):Prop:=
 e=.returned (.tuple #[])∧∃s1 s2 s3 s4 t1 t2,FV w' p q (vCi f L V) s1 s2 s3 s4 (vBl f L V) t1 t2∧Ex2 p q w w'
theorem FGot.of {f p q:Nat} {L:LV} {V:WV} {w w':World} {s1 s2 s3 s4 t1 t2:SlV} (h:FV w' p q (vCi f L V) s1 s2 s3 s4 (vBl f L V) t1 t2∧Ex2 p q w w'):FGot f p q L V w (.returned (.tuple #[])) w':=
 ⟨rfl,s1,s2,s3,s4,t1,t2,h⟩
theorem fld_dev {w:World} {p q:Nat} {L:LV} {s1 s2 s3 s4:SlV} {V:WV} {t1 t2:SlV} (h:FV w p q L s1 s2 s3 s4 V t1 t2):
 Calls Tryz.prog 155 #[.pointer (some ⟨p,0,none⟩),.pointer (some ⟨q,0,none⟩)] w (FGot 0 p q L V w):=by
 have c1:w.cell? ⟨p,2,none⟩=some (.string (str L.dev)):=h.box.cell 2 (by omega);have f1:w.frozen? ⟨p,2,none⟩=false:=h.box.2 _;have c2:w.cell? ⟨q,0,none⟩=some (.string (str V.text)):=h.val.cell 0 (by omega);have f2:w.frozen? ⟨q,0,none⟩=false:=h.val.2 _;have hne:=h.ne;have H:=hid h;clear h
 go_enter Tryz.func155,Tryz.ntmps155
 go_region
 refine Great.bodyPost_end0 rfl rfl ?_;have K:=H.out.put (M:=vCi 0 L V) (U:=vBl 0 L V) 2 0 (.string (str V.text)) (.string (str L.dev)) (by omega) (by omega) (fun k hk=>match k,hk with|0,_|1,_|2,_|3,_|4,_|5,_|6,_|7,_|8,_|9,_|10,_|11,_|12,_|13,_|14,_|15,_|16,_=>rfl|k+17,h=>absurd h (by omega)) (fun k hk=>match k,hk with|0,_|1,_|2,_|3,_|4,_|5,_=>rfl|k+6,h=>absurd h (by omega)) H.out.l1 H.out.l2 H.out.l3 H.out.l4 H.out.v1 H.out.v2
 exact FGot.of ⟨K.1.drew1,K.2.drew1⟩
theorem fld_port {w:World} {p q:Nat} {L:LV} {s1 s2 s3 s4:SlV} {V:WV} {t1 t2:SlV} (h:FV w p q L s1 s2 s3 s4 V t1 t2):
 Calls Tryz.prog 158 #[.pointer (some ⟨p,0,none⟩),.pointer (some ⟨q,0,none⟩)] w (FGot 1 p q L V w):=by
 have c1:w.cell? ⟨p,3,none⟩=some (.string (str L.port)):=h.box.cell 3 (by omega);have f1:w.frozen? ⟨p,3,none⟩=false:=h.box.2 _;have c2:w.cell? ⟨q,0,none⟩=some (.string (str V.text)):=h.val.cell 0 (by omega);have f2:w.frozen? ⟨q,0,none⟩=false:=h.val.2 _;have hne:=h.ne;have H:=hid h;clear h
 go_enter Tryz.func158,Tryz.ntmps158
 go_region
 refine Great.bodyPost_end0 rfl rfl ?_;have K:=H.out.put (M:=vCi 1 L V) (U:=vBl 1 L V) 3 0 (.string (str V.text)) (.string (str L.port)) (by omega) (by omega) (fun k hk=>match k,hk with|0,_|1,_|2,_|3,_|4,_|5,_|6,_|7,_|8,_|9,_|10,_|11,_|12,_|13,_|14,_|15,_|16,_=>rfl|k+17,h=>absurd h (by omega)) (fun k hk=>match k,hk with|0,_|1,_|2,_|3,_|4,_|5,_=>rfl|k+6,h=>absurd h (by omega)) H.out.l1 H.out.l2 H.out.l3 H.out.l4 H.out.v1 H.out.v2
 exact FGot.of ⟨K.1.drew1,K.2.drew1⟩
theorem fld_peer {w:World} {p q:Nat} {L:LV} {s1 s2 s3 s4:SlV} {V:WV} {t1 t2:SlV} (h:FV w p q L s1 s2 s3 s4 V t1 t2):
 Calls Tryz.prog 163 #[.pointer (some ⟨p,0,none⟩),.pointer (some ⟨q,0,none⟩)] w (FGot 2 p q L V w):=by
 have c1:w.cell? ⟨p,4,none⟩=some (.string (str L.peer)):=h.box.cell 4 (by omega);have f1:w.frozen? ⟨p,4,none⟩=false:=h.box.2 _;have c2:w.cell? ⟨q,0,none⟩=some (.string (str V.text)):=h.val.cell 0 (by omega);have f2:w.frozen? ⟨q,0,none⟩=false:=h.val.2 _;have hne:=h.ne;have H:=hid h;clear h
 go_enter Tryz.func163,Tryz.ntmps163
 go_region
 refine Great.bodyPost_end0 rfl rfl ?_;have K:=H.out.put (M:=vCi 2 L V) (U:=vBl 2 L V) 4 0 (.string (str V.text)) (.string (str L.peer)) (by omega) (by omega) (fun k hk=>match k,hk with|0,_|1,_|2,_|3,_|4,_|5,_|6,_|7,_|8,_|9,_|10,_|11,_|12,_|13,_|14,_|15,_|16,_=>rfl|k+17,h=>absurd h (by omega)) (fun k hk=>match k,hk with|0,_|1,_|2,_|3,_|4,_|5,_=>rfl|k+6,h=>absurd h (by omega)) H.out.l1 H.out.l2 H.out.l3 H.out.l4 H.out.v1 H.out.v2
 exact FGot.of ⟨K.1.drew1,K.2.drew1⟩
theorem fld_far {w:World} {p q:Nat} {L:LV} {s1 s2 s3 s4:SlV} {V:WV} {t1 t2:SlV} (h:FV w p q L s1 s2 s3 s4 V t1 t2):
 Calls Tryz.prog 164 #[.pointer (some ⟨p,0,none⟩),.pointer (some ⟨q,0,none⟩)] w (FGot 3 p q L V w):=by
 have c1:w.cell? ⟨p,5,none⟩=some (.string (str L.far)):=h.box.cell 5 (by omega);have f1:w.frozen? ⟨p,5,none⟩=false:=h.box.2 _;have c2:w.cell? ⟨q,0,none⟩=some (.string (str V.text)):=h.val.cell 0 (by omega);have f2:w.frozen? ⟨q,0,none⟩=false:=h.val.2 _;have hne:=h.ne;have H:=hid h;clear h
 go_enter Tryz.func164,Tryz.ntmps164
 go_region
 refine Great.bodyPost_end0 rfl rfl ?_;have K:=H.out.put (M:=vCi 3 L V) (U:=vBl 3 L V) 5 0 (.string (str V.text)) (.string (str L.far)) (by omega) (by omega) (fun k hk=>match k,hk with|0,_|1,_|2,_|3,_|4,_|5,_|6,_|7,_|8,_|9,_|10,_|11,_|12,_|13,_|14,_|15,_|16,_=>rfl|k+17,h=>absurd h (by omega)) (fun k hk=>match k,hk with|0,_|1,_|2,_|3,_|4,_|5,_=>rfl|k+6,h=>absurd h (by omega)) H.out.l1 H.out.l2 H.out.l3 H.out.l4 H.out.v1 H.out.v2
 exact FGot.of ⟨K.1.drew1,K.2.drew1⟩
theorem fld_name {w:World} {p q:Nat} {L:LV} {s1 s2 s3 s4:SlV} {V:WV} {t1 t2:SlV} (h:FV w p q L s1 s2 s3 s4 V t1 t2):
 Calls Tryz.prog 167 #[.pointer (some ⟨p,0,none⟩),.pointer (some ⟨q,0,none⟩)] w (FGot 4 p q L V w):=by
 have c1:w.cell? ⟨p,6,none⟩=some (.string (str L.name)):=h.box.cell 6 (by omega);have f1:w.frozen? ⟨p,6,none⟩=false:=h.box.2 _;have c2:w.cell? ⟨q,0,none⟩=some (.string (str V.text)):=h.val.cell 0 (by omega);have f2:w.frozen? ⟨q,0,none⟩=false:=h.val.2 _;have hne:=h.ne;have H:=hid h;clear h
 go_enter Tryz.func167,Tryz.ntmps167
 go_region
 refine Great.bodyPost_end0 rfl rfl ?_;have K:=H.out.put (M:=vCi 4 L V) (U:=vBl 4 L V) 6 0 (.string (str V.text)) (.string (str L.name)) (by omega) (by omega) (fun k hk=>match k,hk with|0,_|1,_|2,_|3,_|4,_|5,_|6,_|7,_|8,_|9,_|10,_|11,_|12,_|13,_|14,_|15,_|16,_=>rfl|k+17,h=>absurd h (by omega)) (fun k hk=>match k,hk with|0,_|1,_|2,_|3,_|4,_|5,_=>rfl|k+6,h=>absurd h (by omega)) H.out.l1 H.out.l2 H.out.l3 H.out.l4 H.out.v1 H.out.v2
 exact FGot.of ⟨K.1.drew1,K.2.drew1⟩
theorem fld_number {w:World} {p q:Nat} {L:LV} {s1 s2 s3 s4:SlV} {V:WV} {t1 t2:SlV} (h:FV w p q L s1 s2 s3 s4 V t1 t2):
 Calls Tryz.prog 156 #[.pointer (some ⟨p,0,none⟩),.pointer (some ⟨q,0,none⟩)] w (FGot 6 p q L V w):=by
 have c1:w.cell? ⟨p,11,none⟩=some (.int .i64 L.num):=h.box.cell 11 (by omega);have f1:w.frozen? ⟨p,11,none⟩=false:=h.box.2 _;have c2:w.cell? ⟨q,1,none⟩=some (.int .i64 V.n):=h.val.cell 1 (by omega);have f2:w.frozen? ⟨q,1,none⟩=false:=h.val.2 _;have hne:=h.ne;have H:=hid h;clear h
 go_enter Tryz.func156,Tryz.ntmps156
 go_region
 refine Great.bodyPost_end0 rfl rfl ?_;have K:=H.out.put (M:=vCi 6 L V) (U:=vBl 6 L V) 11 1 (.int .i64 V.n) (.int .i64 L.num) (by omega) (by omega) (fun k hk=>match k,hk with|0,_|1,_|2,_|3,_|4,_|5,_|6,_|7,_|8,_|9,_|10,_|11,_|12,_|13,_|14,_|15,_|16,_=>rfl|k+17,h=>absurd h (by omega)) (fun k hk=>match k,hk with|0,_|1,_|2,_|3,_|4,_|5,_=>rfl|k+6,h=>absurd h (by omega)) H.out.l1 H.out.l2 H.out.l3 H.out.l4 H.out.v1 H.out.v2
 exact FGot.of ⟨K.1.drew1,K.2.drew1⟩
theorem fld_vlan {w:World} {p q:Nat} {L:LV} {s1 s2 s3 s4:SlV} {V:WV} {t1 t2:SlV} (h:FV w p q L s1 s2 s3 s4 V t1 t2):
 Calls Tryz.prog 161 #[.pointer (some ⟨p,0,none⟩),.pointer (some ⟨q,0,none⟩)] w (FGot 7 p q L V w):=by
 have c1:w.cell? ⟨p,10,none⟩=some (.int .i64 L.vlan):=h.box.cell 10 (by omega);have f1:w.frozen? ⟨p,10,none⟩=false:=h.box.2 _;have c2:w.cell? ⟨q,1,none⟩=some (.int .i64 V.n):=h.val.cell 1 (by omega);have f2:w.frozen? ⟨q,1,none⟩=false:=h.val.2 _;have hne:=h.ne;have H:=hid h;clear h
 go_enter Tryz.func161,Tryz.ntmps161
 go_region
 refine Great.bodyPost_end0 rfl rfl ?_;have K:=H.out.put (M:=vCi 7 L V) (U:=vBl 7 L V) 10 1 (.int .i64 V.n) (.int .i64 L.vlan) (by omega) (by omega) (fun k hk=>match k,hk with|0,_|1,_|2,_|3,_|4,_|5,_|6,_|7,_|8,_|9,_|10,_|11,_|12,_|13,_|14,_|15,_|16,_=>rfl|k+17,h=>absurd h (by omega)) (fun k hk=>match k,hk with|0,_|1,_|2,_|3,_|4,_|5,_=>rfl|k+6,h=>absurd h (by omega)) H.out.l1 H.out.l2 H.out.l3 H.out.l4 H.out.v1 H.out.v2
 exact FGot.of ⟨K.1.drew1,K.2.drew1⟩
theorem fld_cost {w:World} {p q:Nat} {L:LV} {s1 s2 s3 s4:SlV} {V:WV} {t1 t2:SlV} (h:FV w p q L s1 s2 s3 s4 V t1 t2):
 Calls Tryz.prog 159 #[.pointer (some ⟨p,0,none⟩),.pointer (some ⟨q,0,none⟩)] w (FGot 8 p q L V w):=by
 have c1:w.cell? ⟨p,12,none⟩=some (.int .i64 L.cost):=h.box.cell 12 (by omega);have f1:w.frozen? ⟨p,12,none⟩=false:=h.box.2 _;have c2:w.cell? ⟨q,1,none⟩=some (.int .i64 V.n):=h.val.cell 1 (by omega);have f2:w.frozen? ⟨q,1,none⟩=false:=h.val.2 _;have hne:=h.ne;have H:=hid h;clear h
 go_enter Tryz.func159,Tryz.ntmps159
 go_region
 refine Great.bodyPost_end0 rfl rfl ?_;have K:=H.out.put (M:=vCi 8 L V) (U:=vBl 8 L V) 12 1 (.int .i64 V.n) (.int .i64 L.cost) (by omega) (by omega) (fun k hk=>match k,hk with|0,_|1,_|2,_|3,_|4,_|5,_|6,_|7,_|8,_|9,_|10,_|11,_|12,_|13,_|14,_|15,_|16,_=>rfl|k+17,h=>absurd h (by omega)) (fun k hk=>match k,hk with|0,_|1,_|2,_|3,_|4,_|5,_=>rfl|k+6,h=>absurd h (by omega)) H.out.l1 H.out.l2 H.out.l3 H.out.l4 H.out.v1 H.out.v2
 exact FGot.of ⟨K.1.drew1,K.2.drew1⟩
theorem fld_mac {w:World} {p q:Nat} {L:LV} {s1 s2 s3 s4:SlV} {V:WV} {t1 t2:SlV} (h:FV w p q L s1 s2 s3 s4 V t1 t2):
 Calls Tryz.prog 157 #[.pointer (some ⟨p,0,none⟩),.pointer (some ⟨q,0,none⟩)] w (FGot 9 p q L V w):=by
 have c1:w.cell? ⟨p,7,none⟩=some (.int .u64 L.mac):=h.box.cell 7 (by omega);have f1:w.frozen? ⟨p,7,none⟩=false:=h.box.2 _;have c2:w.cell? ⟨q,2,none⟩=some (.int .u64 V.mac):=h.val.cell 2 (by omega);have f2:w.frozen? ⟨q,2,none⟩=false:=h.val.2 _;have hne:=h.ne;have H:=hid h;clear h
 go_enter Tryz.func157,Tryz.ntmps157
 go_region
 refine Great.bodyPost_end0 rfl rfl ?_;have K:=H.out.put (M:=vCi 9 L V) (U:=vBl 9 L V) 7 2 (.int .u64 V.mac) (.int .u64 L.mac) (by omega) (by omega) (fun k hk=>match k,hk with|0,_|1,_|2,_|3,_|4,_|5,_|6,_|7,_|8,_|9,_|10,_|11,_|12,_|13,_|14,_|15,_|16,_=>rfl|k+17,h=>absurd h (by omega)) (fun k hk=>match k,hk with|0,_|1,_|2,_|3,_|4,_|5,_=>rfl|k+6,h=>absurd h (by omega)) H.out.l1 H.out.l2 H.out.l3 H.out.l4 H.out.v1 H.out.v2
 exact FGot.of ⟨K.1.drew1,K.2.drew1⟩
theorem fld_addr {w:World} {p q:Nat} {L:LV} {s1 s2 s3 s4:SlV} {V:WV} {t1 t2:SlV} (h:FV w p q L s1 s2 s3 s4 V t1 t2):
 Calls Tryz.prog 165 #[.pointer (some ⟨p,0,none⟩),.pointer (some ⟨q,0,none⟩)] w (FGot 10 p q L V w):=by
 have c1:w.cell? ⟨p,8,none⟩=some (.int .u32 L.addr):=h.box.cell 8 (by omega);have f1:w.frozen? ⟨p,8,none⟩=false:=h.box.2 _;have c2:w.cell? ⟨q,3,none⟩=some (.int .u32 V.addr):=h.val.cell 3 (by omega);have f2:w.frozen? ⟨q,3,none⟩=false:=h.val.2 _;have hne:=h.ne;have H:=hid h;clear h
 go_enter Tryz.func165,Tryz.ntmps165
 go_region
 refine Great.bodyPost_end0 rfl rfl ?_;have K:=H.out.put (M:=vCi 10 L V) (U:=vBl 10 L V) 8 3 (.int .u32 V.addr) (.int .u32 L.addr) (by omega) (by omega) (fun k hk=>match k,hk with|0,_|1,_|2,_|3,_|4,_|5,_|6,_|7,_|8,_|9,_|10,_|11,_|12,_|13,_|14,_|15,_|16,_=>rfl|k+17,h=>absurd h (by omega)) (fun k hk=>match k,hk with|0,_|1,_|2,_|3,_|4,_|5,_=>rfl|k+6,h=>absurd h (by omega)) H.out.l1 H.out.l2 H.out.l3 H.out.l4 H.out.v1 H.out.v2
 exact FGot.of ⟨K.1.drew1,K.2.drew1⟩
theorem fld_tagged {w:World} {p q:Nat} {L:LV} {s1 s2 s3 s4:SlV} {V:WV} {t1 t2:SlV} (h:FV w p q L s1 s2 s3 s4 V t1 t2):
 Calls Tryz.prog 162 #[.pointer (some ⟨p,0,none⟩),.pointer (some ⟨q,0,none⟩)] w (FGot 12 p q L V w):=by
 have c1:w.cell? ⟨p,13,none⟩=some (.slice s1.A s1.n s1.c):=h.box.cell 13 (by omega);have f1:w.frozen? ⟨p,13,none⟩=false:=h.box.2 _;have c2:w.cell? ⟨q,4,none⟩=some (.slice t1.A t1.n t1.c):=h.val.cell 4 (by omega);have f2:w.frozen? ⟨q,4,none⟩=false:=h.val.2 _;have hne:=h.ne;have H:=hid h;clear h
 go_enter Tryz.func162,Tryz.ntmps162
 go_region
 refine Great.bodyPost_end0 rfl rfl ?_;have K:=H.out.put (M:=vCi 12 L V) (U:=vBl 12 L V) 13 4 (.slice t1.A t1.n t1.c) (.slice s1.A s1.n s1.c) (by omega) (by omega) (fun k hk=>match k,hk with|0,_|1,_|2,_|3,_|4,_|5,_|6,_|7,_|8,_|9,_|10,_|11,_|12,_|13,_|14,_|15,_|16,_=>rfl|k+17,h=>absurd h (by omega)) (fun k hk=>match k,hk with|0,_|1,_|2,_|3,_|4,_|5,_=>rfl|k+6,h=>absurd h (by omega)) H.out.v1 H.out.l2 H.out.l3 H.out.l4 H.out.l1 H.out.v2
 exact FGot.of ⟨K.1.drew1,K.2.drew1⟩
theorem fld_imports {w:World} {p q:Nat} {L:LV} {s1 s2 s3 s4:SlV} {V:WV} {t1 t2:SlV} (h:FV w p q L s1 s2 s3 s4 V t1 t2):
 Calls Tryz.prog 168 #[.pointer (some ⟨p,0,none⟩),.pointer (some ⟨q,0,none⟩)] w (FGot 13 p q L V w):=by
 have c1:w.cell? ⟨p,14,none⟩=some (.slice s2.A s2.n s2.c):=h.box.cell 14 (by omega);have f1:w.frozen? ⟨p,14,none⟩=false:=h.box.2 _;have c2:w.cell? ⟨q,4,none⟩=some (.slice t1.A t1.n t1.c):=h.val.cell 4 (by omega);have f2:w.frozen? ⟨q,4,none⟩=false:=h.val.2 _;have hne:=h.ne;have H:=hid h;clear h
 go_enter Tryz.func168,Tryz.ntmps168
 go_region
 refine Great.bodyPost_end0 rfl rfl ?_;have K:=H.out.put (M:=vCi 13 L V) (U:=vBl 13 L V) 14 4 (.slice t1.A t1.n t1.c) (.slice s2.A s2.n s2.c) (by omega) (by omega) (fun k hk=>match k,hk with|0,_|1,_|2,_|3,_|4,_|5,_|6,_|7,_|8,_|9,_|10,_|11,_|12,_|13,_|14,_|15,_|16,_=>rfl|k+17,h=>absurd h (by omega)) (fun k hk=>match k,hk with|0,_|1,_|2,_|3,_|4,_|5,_=>rfl|k+6,h=>absurd h (by omega)) H.out.l1 H.out.v1 H.out.l3 H.out.l4 H.out.l2 H.out.v2
 exact FGot.of ⟨K.1.drew1,K.2.drew1⟩
theorem fld_exports {w:World} {p q:Nat} {L:LV} {s1 s2 s3 s4:SlV} {V:WV} {t1 t2:SlV} (h:FV w p q L s1 s2 s3 s4 V t1 t2):
 Calls Tryz.prog 169 #[.pointer (some ⟨p,0,none⟩),.pointer (some ⟨q,0,none⟩)] w (FGot 14 p q L V w):=by
 have c1:w.cell? ⟨p,15,none⟩=some (.slice s3.A s3.n s3.c):=h.box.cell 15 (by omega);have f1:w.frozen? ⟨p,15,none⟩=false:=h.box.2 _;have c2:w.cell? ⟨q,4,none⟩=some (.slice t1.A t1.n t1.c):=h.val.cell 4 (by omega);have f2:w.frozen? ⟨q,4,none⟩=false:=h.val.2 _;have hne:=h.ne;have H:=hid h;clear h
 go_enter Tryz.func169,Tryz.ntmps169
 go_region
 refine Great.bodyPost_end0 rfl rfl ?_;have K:=H.out.put (M:=vCi 14 L V) (U:=vBl 14 L V) 15 4 (.slice t1.A t1.n t1.c) (.slice s3.A s3.n s3.c) (by omega) (by omega) (fun k hk=>match k,hk with|0,_|1,_|2,_|3,_|4,_|5,_|6,_|7,_|8,_|9,_|10,_|11,_|12,_|13,_|14,_|15,_|16,_=>rfl|k+17,h=>absurd h (by omega)) (fun k hk=>match k,hk with|0,_|1,_|2,_|3,_|4,_|5,_=>rfl|k+6,h=>absurd h (by omega)) H.out.l1 H.out.l2 H.out.v1 H.out.l4 H.out.l3 H.out.v2
 exact FGot.of ⟨K.1.drew1,K.2.drew1⟩
theorem fld_addrs {w:World} {p q:Nat} {L:LV} {s1 s2 s3 s4:SlV} {V:WV} {t1 t2:SlV} (h:FV w p q L s1 s2 s3 s4 V t1 t2):
 Calls Tryz.prog 166 #[.pointer (some ⟨p,0,none⟩),.pointer (some ⟨q,0,none⟩)] w (FGot 15 p q L V w):=by
 have c1:w.cell? ⟨p,16,none⟩=some (.slice s4.A s4.n s4.c):=h.box.cell 16 (by omega);have f1:w.frozen? ⟨p,16,none⟩=false:=h.box.2 _;have c2:w.cell? ⟨q,5,none⟩=some (.slice t2.A t2.n t2.c):=h.val.cell 5 (by omega);have f2:w.frozen? ⟨q,5,none⟩=false:=h.val.2 _;have hne:=h.ne;have H:=hid h;clear h
 go_enter Tryz.func166,Tryz.ntmps166
 go_region
 refine Great.bodyPost_end0 rfl rfl ?_;have K:=H.out.put (M:=vCi 15 L V) (U:=vBl 15 L V) 16 5 (.slice t2.A t2.n t2.c) (.slice s4.A s4.n s4.c) (by omega) (by omega) (fun k hk=>match k,hk with|0,_|1,_|2,_|3,_|4,_|5,_|6,_|7,_|8,_|9,_|10,_|11,_|12,_|13,_|14,_|15,_|16,_=>rfl|k+17,h=>absurd h (by omega)) (fun k hk=>match k,hk with|0,_|1,_|2,_|3,_|4,_|5,_=>rfl|k+6,h=>absurd h (by omega)) H.out.l1 H.out.l2 H.out.l3 H.out.v2 H.out.v1 H.out.l4
 exact FGot.of ⟨K.1.drew1,K.2.drew1⟩
theorem fld_mode {w:World} {p q:Nat} {L:LV} {s1 s2 s3 s4:SlV} {V:WV} {t1 t2:SlV} (h:FV w p q L s1 s2 s3 s4 V t1 t2):
 Calls Tryz.prog 160 #[.pointer (some ⟨p,0,none⟩),.pointer (some ⟨q,0,none⟩)] w (FGot 5 p q L V w):=by
 have c2:w.cell? ⟨q,0,none⟩=some (.string (str V.text)):=h.val.cell 0 (by omega);have f2:w.frozen? ⟨q,0,none⟩=false:=h.val.2 _;have H:=hid h;clear h
 go_enter Tryz.func160,Tryz.ntmps160
 go_wp2;refine Great.bodyPost_end0 rfl rfl ?_;exact FGot.of (H.out.putv (U:=vBl 5 L V) 0 (.string ⟨#[116,114,117,110,107]⟩) (by omega) (fun k hk=>match k,hk with|0,_|1,_|2,_|3,_|4,_|5,_=>rfl|k+6,h=>absurd h (by omega)) H.out.v1 H.out.v2)
theorem fld_prefix {w:World} {p q:Nat} {L:LV} {s1 s2 s3 s4:SlV} {V:WV} {t1 t2:SlV} (h:FV w p q L s1 s2 s3 s4 V t1 t2):
 Calls Tryz.prog 170 #[.pointer (some ⟨p,0,none⟩),.pointer (some ⟨q,0,none⟩)] w (FGot 11 p q L V w):=by
 have hne:=h.ne;have H:=hid h;clear h
 go_enter Tryz.func170,Tryz.ntmps170
 go_wp2_with (go_at_call 165;(with_reducible refine (fld_addr H.out).mono ?_);rintro e w1 ⟨rfl,a1,a2,a3,a4,b1,b2,G,E⟩);have c1:w1.cell? ⟨p,9,none⟩=some (.int .i64 L.bits):=G.box.cell 9 (by omega);have f1:w1.frozen? ⟨p,9,none⟩=false:=G.box.2 _;have c2:w1.cell? ⟨q,1,none⟩=some (.int .i64 V.n):=G.val.cell 1 (by omega);have f2:w1.frozen? ⟨q,1,none⟩=false:=G.val.2 _;have GG:=hid G;have EE:=hid E
 clear G E
 go_region
 refine Great.bodyPost_end0 rfl rfl ?_;have K:=GG.out.put (M:=vCi 11 L V) (U:=vBl 11 L V) 9 1 (.int .i64 V.n) (.int .i64 L.bits) (by omega) (by omega) (fun k hk=>match k,hk with|0,_|1,_|2,_|3,_|4,_|5,_|6,_|7,_|8,_|9,_|10,_|11,_|12,_|13,_|14,_|15,_|16,_=>rfl|k+17,h=>absurd h (by omega)) (fun k hk=>match k,hk with|0,_|1,_|2,_|3,_|4,_|5,_=>rfl|k+6,h=>absurd h (by omega)) GG.out.l1 GG.out.l2 GG.out.l3 GG.out.l4 GG.out.v1 GG.out.v2
 exact FGot.of ⟨K.1.drew1,EE.out.trans K.2.drew1⟩
def fnum:Nat→Nat
 |0=>155
 |1=>158
 |2=>163
 |3=>164
 |4=>167
 |5=>160
 |6=>156
 |7=>161
 |8=>159
 |9=>157
 |10=>165
 |11=>170
 |12=>162
 |13=>168
 |14=>169
 |_=>166
theorem fld_any {w:World} {p q:Nat} {L:LV} {s1 s2 s3 s4:SlV} {V:WV} {t1 t2:SlV} (f:Nat) (hf:f<16) (h:FV w p q L s1 s2 s3 s4 V t1 t2):
 Calls Tryz.prog (fnum f) #[.pointer (some ⟨p,0,none⟩),.pointer (some ⟨q,0,none⟩)] w (FGot f p q L V w):=by
 match f,hf with
 |0,_=>exact fld_dev h
 |1,_=>exact fld_port h
 |2,_=>exact fld_peer h
 |3,_=>exact fld_far h
 |4,_=>exact fld_name h
 |5,_=>exact fld_mode h
 |6,_=>exact fld_number h
 |7,_=>exact fld_vlan h
 |8,_=>exact fld_cost h
 |9,_=>exact fld_mac h
 |10,_=>exact fld_addr h
 |11,_=>exact fld_prefix h
 |12,_=>exact fld_tagged h
 |13,_=>exact fld_imports h
 |14,_=>exact fld_exports h
 |15,_=>exact fld_addrs h
 |f+16,h=>exact absurd h (by omega)
def fval (f p:Nat):Value:=.func (.func (fnum f)) #[.pointer (some ⟨p,0,none⟩)] #[]
def loW:Nat→Int
 |3|4|5|6|10|11=>1
 |_=>0
def hiW:Nat→Int
 |2|3|11=>65535
 |4|5|10=>4094
 |6=>16777215
 |_=>0
def optB (w:Nat):Bool:=decide (w=5) || decide (w=10) || decide (w=11)
def loneB (m:Int):Bool:=decide (m≤281474976710655) && (!Mac.grp m && !Mac.isHostB m)
def upA:Int→List Int→Bool
 |_,[]=>true
 |a,x :: r=>decide (a<x) && upA x r
def risA (xs:List Int):Bool:=upA 0 xs && (decide (1≤xs.length) && decide (xs.length≤16))
noncomputable def mayW:Nat→WV→Bool
 |0,V=>nmB V.text
 |1,V=>(V.text == vDe) || (V.text == vEy)
 |2,V=>decide (0≤V.n) && decide (V.n≤65535)
 |3,V=>decide (1≤V.n) && decide (V.n≤65535)
 |4,V=>decide (1≤V.n) && decide (V.n≤4094)
 |5,V=>decide (1≤V.n) && decide (V.n≤4094)
 |6,V=>decide (1≤V.n) && decide (V.n≤16777215)
 |7,V=>loneB V.mac
 |8,V=>!decide (V.addr=0)
 |9,V=>snB V.addr V.n
 |10,V=>vBs V.list 1 4094
 |11,V=>vBs V.list 1 65535
 |12,V=>risA V.addrs
 |_,_=>false
noncomputable def vCo (w:Nat) (V:WV):Bool:=if optB w=true∧V.n=0∧V.list=[] then true else mayW w V
def readB:Nat→List UInt8→Bool
 |0,_|1,_=>true
 |2,s=>nB s 0 65535
 |3,s=>nB s 1 65535
 |4,s=>nB s 1 4094
 |5,s=>nB s 1 4094
 |6,s=>nB s 1 16777215
 |7,s=>mcB s
 |8,s=>rdB s
 |9,s=>pfB s
 |10,s=>lsB (rdI 1 4094) s
 |11,s=>lsB (rdI 1 65535) s
 |12,s=>lsB rdA s
 |_,_=>false
def readV:Nat→List UInt8→WV
 |0,s=>{WV.zero with text:=s}
 |1,s=>{WV.zero with text:=s}
 |2,s=>{WV.zero with n:=nV s 0 65535}
 |3,s=>{WV.zero with n:=nV s 1 65535}
 |4,s=>{WV.zero with n:=nV s 1 4094}
 |5,s=>{WV.zero with n:=nV s 1 4094}
 |6,s=>{WV.zero with n:=nV s 1 16777215}
 |7,s=>{WV.zero with mac:=mcV s}
 |8,s=>{WV.zero with addr:=rdV s}
 |9,s=>{WV.zero with addr:=paV s,n:=pbV s}
 |10,s=>{WV.zero with list:=lsV (rdI 1 4094) s}
 |11,s=>{WV.zero with list:=lsV (rdI 1 65535) s}
 |12,s=>{WV.zero with addrs:=lsV rdA s}
 |_,_=>WV.zero
noncomputable def saidB (w:Nat) (s:List UInt8):Bool:=if s=dash then optB w else readB w s && vCo w (readV w s)
def refE (w:Nat):Int:=if w=0∨w=1 then 20 else 21
def pts (k:Int) (tg:Bool):List (Nat×Nat):=
 if k=1 then [(0,0),(2,6),(7,9)] else if k=2 then (if tg=true then [(0,0),(0,1),(3,8),(1,5),(5,7),(10,12)] else [(0,0),(0,1),(3,8),(1,5),(4,7)])
 else if k=3 then [(0,0),(0,1),(0,2),(0,3)] else if k=4 then [(0,0),(4,7),(7,9),(0,1)] else if k=5 then [(0,0),(8,10)] else if k=6 then [(0,0),(4,7),(6,6)]
 else if k=7 then [(0,0),(6,6),(12,15)] else if k=8 then [(0,0),(0,4),(11,13),(11,14)] else if k=9 then [(0,0),(4,7),(0,4),(9,11)] else []
def apB (L:LV):Bool:=decide (L.kind≠2) || ((decide (L.vlan≠0) || decide (0<L.tagged.length)) && !(L.tagged.any (fun x=>decide (x=L.vlan))))
theorem vBe {w:Nat} (h:optB w=false) (V:WV):vCo w V=mayW w V:=by
 unfold vCo;rw [if_neg];rintro ⟨h1,_⟩;rw [h] at h1
 cases h1
theorem upA_upB (x:Int) (r:List Int):upA x r=upB (x :: r):=by
 induction r generalizing x with
 |nil=>rfl
 |cons y r ih=>show (decide (x<y) && upA y r)=(decide (x<y) && upB (y :: r));rw [ih]
theorem risA_of {xs:List Int} {hi:Int} (h:vBs xs 0 hi=true):risA xs=decide (0<xs.getD 0 0):=by
 unfold vBs at h;rw [Bool.and_eq_true] at h;have h2:=(vCd xs).1 h.1;have h3:=(upB_iff xs).2 h2.2.2;unfold risA;rw [decide_eq_true h2.1,decide_eq_true h2.2.1,Bool.and_self,Bool.and_true]
 cases xs with
 |nil=>exact absurd h2.1 (by simp)
 |cons x r=>
  show (decide (0<x) && upA x r)=decide (0<x)
  rw [upA_upB,h3,Bool.and_true]
def LW (c:UInt8) (w:Nat):Prop:=∀s,wdE c s=if saidB w s=true then 0 else refE w
noncomputable def vEz (L M:LV):Bool:=@decide (L=M) (Classical.propDecidable _)
theorem vDx (L M:LV):vEz L M=true↔L=M:=by unfold vEz;exact @decide_eq_true_iff _ (Classical.propDecidable _)
theorem vFp (L:LV):vEz L L=true:=(vDx L L).2 rfl
noncomputable def vDp:List (Nat×Nat)→LV→Option LV
 | [],L=>some L
 |(w,f) :: ps,L=>if vCo w (vBl f L WV.zero)=true then vDp ps (vCi f L WV.zero) else none
noncomputable def rgB (L:LV):Bool:=match vDp (pts L.kind true) L with
 |none=>false
 |some M=>(decide (0<(pts L.kind true).length) && apB L) && vEz M (LV.new L.row L.kind)
theorem rgB_some {L M:LV} (h:vDp (pts L.kind true) L=some M):rgB L=((decide (0<(pts L.kind true).length) && apB L) && vEz M (LV.new L.row L.kind)):=by
 unfold rgB;rw [h]
theorem rgB_none {L:LV} (h:vDp (pts L.kind true) L=none):rgB L=false:=by
 unfold rgB;rw [h]
theorem rgB_yes {L:LV} (h:rgB L=true):pts L.kind true≠[]∧vDp (pts L.kind true) L=some (LV.new L.row L.kind):=by
 cases hr:vDp (pts L.kind true) L with
 |none=>rw [rgB_none hr] at h;cases h
 |some M=>
  rw [rgB_some hr,Bool.and_eq_true,Bool.and_eq_true,decide_eq_true_eq,vDx] at h;refine ⟨fun e=>?_,by rw [h.2]⟩;rw [e] at h;exact absurd h.1.1 (by decide)
theorem pts_cases {P:List (Nat×Nat)→Prop} (k:Int) (tg:Bool) (h1:P [(0,0),(2,6),(7,9)]) (h2:P [(0,0),(0,1),(3,8),(1,5),(5,7),(10,12)]) (h0:P [(0,0),(0,1),(3,8),(1,5),(4,7)]) (h3:P [(0,0),(0,1),(0,2),(0,3)])
 (h4:P [(0,0),(4,7),(7,9),(0,1)]) (h5:P [(0,0),(8,10)]) (h6:P [(0,0),(4,7),(6,6)]) (h7:P [(0,0),(6,6),(12,15)]) (h8:P [(0,0),(0,4),(11,13),(11,14)]) (h9:P [(0,0),(4,7),(0,4),(9,11)]) (hn:P []):P (pts k tg):=by
 unfold pts
 repeat' split
 all_goals assumption
theorem pts_no (k:Int) (tg:Bool) (h:k<1∨9<k):pts k tg=[]:=by
 unfold pts;rw [if_neg (by omega),if_neg (by omega),if_neg (by omega),if_neg (by omega),if_neg (by omega),if_neg (by omega),if_neg (by omega),if_neg (by omega),if_neg (by omega)]
theorem may0 {s:List UInt8} (h:nmB s=true):vCo 0 {WV.zero with text:=s}=true:=by rw [vBe rfl];exact h
theorem may_num {w:Nat} {lo hi x:Int} (hw:mayW w {WV.zero with n:=x}=(decide (lo≤x) && decide (x≤hi))) (h0:lo≤x) (h1:x≤hi):vCo w {WV.zero with n:=x}=true:=by
 unfold vCo
 split
 · rfl
 · rw [hw,decide_eq_true h0,decide_eq_true h1];rfl
theorem may8 {a:Int} (h:0<a):vCo 8 {WV.zero with addr:=a}=true:=by
 rw [vBe rfl]
 show (!decide (a=0))=true
 rw [decide_eq_false (by omega)]
 rfl
theorem may12 {xs:List Int} {hi:Int} (h:vBs xs 0 hi=true) (h0:0<xs.getD 0 0):vCo 12 {WV.zero with addrs:=xs}=true:=by
 rw [vBe rfl]
 show risA xs=true
 rw [risA_of h,decide_eq_true h0]
theorem rgB_of {L:LV} {ps:List (Nat×Nat)} (hp:pts L.kind true=ps) (h0:0<ps.length) (ha:apB L=true) (h:vDp ps L=some (LV.new L.row L.kind)):rgB L=true:=by
 rw [rgB_some (M:=LV.new L.row L.kind) (by rw [hp];exact h),hp,decide_eq_true h0,ha,vFp]
 rfl
theorem vFl {w f:Nat} {ps:List (Nat×Nat)} {L M:LV} (h:vCo w (vBl f L WV.zero)=true) (g:vDp ps (vCi f L WV.zero)=some M):vDp ((w,f) :: ps) L=some M:=by
 rw [vDp,if_pos h];exact g
end Go.Proofs.YtgmflecelnefcaaGreat
