import Derived.Test.YtgmflecelnefcaaGreatOp01
set_option maxRecDepth 100000
set_option maxHeartbeats 40000000
namespace Go.Proofs.YtgmflecelnefcaaGreat
open Go.ChangeShapes Go.WideShapes Go.ChangeAt Go.RowKit
structure Sl3 where
 A:Option Addr
 n:Nat
 c:Nat
def Sl3.nil:Sl3:=⟨none,0,0⟩
theorem vAl:Tryz.prog.cellsOf 3=1:=by kernel_rfl
theorem vGy:Tryz.prog.cellsOf 32=1:=by kernel_rfl
theorem vEt:Tryz.prog.cellsOf 33=1:=by kernel_rfl
theorem vCa:Tryz.prog.cellsOf 9=1:=by kernel_rfl
theorem vEs:Tryz.prog.cellsOf 34=1:=by kernel_rfl
theorem ncells_uints:Tryz.prog.cellsOf 35=1:=by kernel_rfl
theorem of_ints:(Rdr.int .i64).list.Of Tryz.prog 34:=vCt Tryz.underlying34 vAl (by decide) (vBf Tryz.underlying3)
theorem of_uints:(Rdr.int .u32).list.Of Tryz.prog 35:=vCt Tryz.underlying35 vEt (by decide) (vBf Tryz.underlying33)
theorem vAi {α:Type} {R:Rdr α} {w:World} {F:Nat→Prop} {A:Option Addr} {n c:Nat} {xs:List α} (h:RSl R w F A n c xs) (k:Nat) (hk:k<n) (d:α):∃(b off:Nat) (vs:List Value),A=some ⟨b,off,none⟩∧F b∧b<w.heap.size∧R.rd w F vs (xs.getD k d)∧w.rangeAt b (off+k * R.n) vs:=by
 obtain ⟨b,off,e,hf,hb,hc⟩:=h.at_ (by omega)
 have hl:k<xs.length:=by rw [h.len];exact hk
 obtain ⟨vs,h1,h2⟩:=hc k xs[k] (List.getElem?_eq_getElem hl)
 have e2:xs.getD k d=xs[k]:=by simp [List.getD,hl]
 rw [e2];exact ⟨b,off,vs,e,hf,hb,h1,h2⟩
theorem vAn {α:Type} {R:Rdr α} {w w':World} {A:Option Addr} {n c:Nat} {xs:List α} (h:RSl R w (vAp w) A n c xs) (hb:Below w.heap.size w w'):RSl R w' (vAp w') A n c xs:=h.keep (fun b h=>hb.block b h) (fun _ h=>Nat.lt_of_lt_of_le h hb.size)
structure DevV where
 row:Int
 prio:Int
 name:List UInt8
 mac:Int
 vtep:Int
def DevV.zero:DevV:=⟨0,0,[],0,0⟩
def vGt (X:DevV):List Value:=[.int .i64 X.row,.int .i64 X.prio,.string (str X.name),.int .u64 X.mac,.int .u32 X.vtep]
def devR:Rdr DevV where
 n:=5
 rd:=fun _ _ vs X=>vs=vGt X
 len:=by rintro w F vs X rfl;rfl
 one:=by rintro w F vs X rfl v hv;simp [vGt] at hv;rcases hv with rfl|rfl|rfl|rfl|rfl<;>rfl
 keep:=fun h _ _=>h
theorem vFs:Tryz.prog.cellsOf 58=5:=by kernel_rfl
theorem dev_of:devR.Of Tryz.prog 58:=fun H enc w sp held fuel cs x h=>by
 obtain ⟨xs,n,_,rfl,hl,hlen,hf⟩:=DataW.trod_struct Tryz.underlying58 h;rw [vFs] at hl
 have hx:∀i,i<5→∃y,xs[i]?=some y:=fun i hi=>⟨_,List.getElem?_eq_getElem (by rw [hlen];exact hi)⟩
 obtain ⟨z0,q0⟩:=vBm (cs:=cs) 0 (hf 0 _ rfl) (hx 0 (by omega)) vAl (vBf Tryz.underlying3);obtain ⟨z1,q1⟩:=vBm 1 (hf 1 _ rfl) (hx 1 (by omega)) vAl (vBf Tryz.underlying3);obtain ⟨z2,q2⟩:=vBm 2 (hf 2 _ rfl) (hx 2 (by omega)) vCa (of_str Tryz.underlying9);obtain ⟨z3,q3⟩:=vBm 3 (hf 3 _ rfl) (hx 3 (by omega)) vGy (vBf Tryz.underlying32);obtain ⟨z4,q4⟩:=vBm 4 (hf 4 _ rfl) (hx 4 (by omega)) vEt (vBf Tryz.underlying33)
 refine ⟨⟨z0,z1,z2,z3,z4⟩,?_⟩
 show cs=vGt _
 apply List.ext_getElem?
 intro i
 match i with
 |0=>rw [vAg q0];rfl
 |1=>rw [vAg q1];rfl
 |2=>rw [vAg q2];rfl
 |3=>rw [vAg q3];rfl
 |4=>rw [vAg q4];rfl
 |i+5=>rw [List.getElem?_eq_none (by omega)];rfl
structure PortV where
 row:Int
 dev:Int
 native:Int
 cost:Int
 link:Int
 name:List UInt8
 tagged:List Int
def PortV.zero:PortV:=⟨0,0,0,0,0,[],[]⟩
def portC (X:PortV) (s_tagged:Sl3):List Value:=[.int .i64 X.row,.int .i64 X.dev,.int .i64 X.native,.int .i64 X.cost,.int .i64 X.link,.string (str X.name),.slice s_tagged.A s_tagged.n s_tagged.c]
def portR:Rdr PortV where
 n:=7
 rd:=fun w F vs X=>∃s_tagged,vs=portC X s_tagged∧RSl (Rdr.int .i64) w F s_tagged.A s_tagged.n s_tagged.c X.tagged
 len:=by rintro w F vs X ⟨s_tagged,rfl,_⟩;rfl
 one:=by rintro w F vs X ⟨s_tagged,rfl,_⟩ v hv;simp [portC] at hv;rcases hv with rfl|rfl|rfl|rfl|rfl|rfl|rfl<;>rfl
 keep:=by rintro w w' F F' vs X ⟨s_tagged,rfl,h_tagged⟩ hb hF;exact ⟨s_tagged,rfl,h_tagged.keep hb hF⟩
theorem vGo:Tryz.prog.cellsOf 68=7:=by kernel_rfl
theorem port_of:portR.Of Tryz.prog 68:=fun H enc w sp held fuel cs x h=>by
 obtain ⟨xs,n,_,rfl,hl,hlen,hf⟩:=DataW.trod_struct Tryz.underlying68 h;rw [vGo] at hl
 have hx:∀i,i<7→∃y,xs[i]?=some y:=fun i hi=>⟨_,List.getElem?_eq_getElem (by rw [hlen];exact hi)⟩
 obtain ⟨z0,q0⟩:=vBm (cs:=cs) 0 (hf 0 _ rfl) (hx 0 (by omega)) vAl (vBf Tryz.underlying3);obtain ⟨z1,q1⟩:=vBm 1 (hf 1 _ rfl) (hx 1 (by omega)) vAl (vBf Tryz.underlying3);obtain ⟨z2,q2⟩:=vBm 2 (hf 2 _ rfl) (hx 2 (by omega)) vAl (vBf Tryz.underlying3);obtain ⟨z3,q3⟩:=vBm 3 (hf 3 _ rfl) (hx 3 (by omega)) vAl (vBf Tryz.underlying3);obtain ⟨z4,q4⟩:=vBm 4 (hf 4 _ rfl) (hx 4 (by omega)) vAl (vBf Tryz.underlying3)
 obtain ⟨z5,q5⟩:=vBm 5 (hf 5 _ rfl) (hx 5 (by omega)) vCa (of_str Tryz.underlying9);obtain ⟨z6,A6,n6,c6,q6,r6⟩:=vBm 6 (hf 6 _ rfl) (hx 6 (by omega)) vEs of_ints;refine ⟨⟨z0,z1,z2,z3,z4,z5,z6⟩,⟨A6,n6,c6⟩,?_,r6⟩
 apply List.ext_getElem?
 intro i
 match i with
 |0=>rw [vAg q0];rfl
 |1=>rw [vAg q1];rfl
 |2=>rw [vAg q2];rfl
 |3=>rw [vAg q3];rfl
 |4=>rw [vAg q4];rfl
 |5=>rw [vAg q5];rfl
 |6=>rw [vAg q6];rfl
 |i+7=>rw [List.getElem?_eq_none (by omega)];rfl
structure LinkV where
 row:Int
 a:Int
 b:Int
def LinkV.zero:LinkV:=⟨0,0,0⟩
def vHl (X:LinkV):List Value:=[.int .i64 X.row,.int .i64 X.a,.int .i64 X.b]
def linkR:Rdr LinkV where
 n:=3
 rd:=fun _ _ vs X=>vs=vHl X
 len:=by rintro w F vs X rfl;rfl
 one:=by rintro w F vs X rfl v hv;simp [vHl] at hv;rcases hv with rfl|rfl|rfl<;>rfl
 keep:=fun h _ _=>h
theorem ncells_link:Tryz.prog.cellsOf 84=3:=by kernel_rfl
theorem link_of:linkR.Of Tryz.prog 84:=fun H enc w sp held fuel cs x h=>by
 obtain ⟨xs,n,_,rfl,hl,hlen,hf⟩:=DataW.trod_struct Tryz.underlying84 h;rw [ncells_link] at hl
 have hx:∀i,i<3→∃y,xs[i]?=some y:=fun i hi=>⟨_,List.getElem?_eq_getElem (by rw [hlen];exact hi)⟩
 obtain ⟨z0,q0⟩:=vBm (cs:=cs) 0 (hf 0 _ rfl) (hx 0 (by omega)) vAl (vBf Tryz.underlying3);obtain ⟨z1,q1⟩:=vBm 1 (hf 1 _ rfl) (hx 1 (by omega)) vAl (vBf Tryz.underlying3);obtain ⟨z2,q2⟩:=vBm 2 (hf 2 _ rfl) (hx 2 (by omega)) vAl (vBf Tryz.underlying3);refine ⟨⟨z0,z1,z2⟩,?_⟩
 show cs=vHl _
 apply List.ext_getElem?
 intro i
 match i with
 |0=>rw [vAg q0];rfl
 |1=>rw [vAg q1];rfl
 |2=>rw [vAg q2];rfl
 |i+3=>rw [List.getElem?_eq_none (by omega)];rfl
structure DomV where
 dev:Int
 vlan:Int
 vni:Int
 irb:Int
 row:Int
 peers:List Int
def DomV.zero:DomV:=⟨0,0,0,0,0,[]⟩
def domC (X:DomV) (s_peers:Sl3):List Value:=[.int .i64 X.dev,.int .i64 X.vlan,.int .i64 X.vni,.int .i64 X.irb,.int .i64 X.row,.slice s_peers.A s_peers.n s_peers.c]
def domR:Rdr DomV where
 n:=6
 rd:=fun w F vs X=>∃s_peers,vs=domC X s_peers∧RSl (Rdr.int .i64) w F s_peers.A s_peers.n s_peers.c X.peers
 len:=by rintro w F vs X ⟨s_peers,rfl,_⟩;rfl
 one:=by rintro w F vs X ⟨s_peers,rfl,_⟩ v hv;simp [domC] at hv;rcases hv with rfl|rfl|rfl|rfl|rfl|rfl<;>rfl
 keep:=by rintro w w' F F' vs X ⟨s_peers,rfl,h_peers⟩ hb hF;exact ⟨s_peers,rfl,h_peers.keep hb hF⟩
theorem ncells_dom:Tryz.prog.cellsOf 54=6:=by kernel_rfl
theorem dom_of:domR.Of Tryz.prog 54:=fun H enc w sp held fuel cs x h=>by
 obtain ⟨xs,n,_,rfl,hl,hlen,hf⟩:=DataW.trod_struct Tryz.underlying54 h;rw [ncells_dom] at hl
 have hx:∀i,i<6→∃y,xs[i]?=some y:=fun i hi=>⟨_,List.getElem?_eq_getElem (by rw [hlen];exact hi)⟩
 obtain ⟨z0,q0⟩:=vBm (cs:=cs) 0 (hf 0 _ rfl) (hx 0 (by omega)) vAl (vBf Tryz.underlying3);obtain ⟨z1,q1⟩:=vBm 1 (hf 1 _ rfl) (hx 1 (by omega)) vAl (vBf Tryz.underlying3);obtain ⟨z2,q2⟩:=vBm 2 (hf 2 _ rfl) (hx 2 (by omega)) vAl (vBf Tryz.underlying3);obtain ⟨z3,q3⟩:=vBm 3 (hf 3 _ rfl) (hx 3 (by omega)) vAl (vBf Tryz.underlying3);obtain ⟨z4,q4⟩:=vBm 4 (hf 4 _ rfl) (hx 4 (by omega)) vAl (vBf Tryz.underlying3)
 obtain ⟨z5,A5,n5,c5,q5,r5⟩:=vBm 5 (hf 5 _ rfl) (hx 5 (by omega)) vEs of_ints;refine ⟨⟨z0,z1,z2,z3,z4,z5⟩,⟨A5,n5,c5⟩,?_,r5⟩
 apply List.ext_getElem?
 intro i
 match i with
 |0=>rw [vAg q0];rfl
 |1=>rw [vAg q1];rfl
 |2=>rw [vAg q2];rfl
 |3=>rw [vAg q3];rfl
 |4=>rw [vAg q4];rfl
 |5=>rw [vAg q5];rfl
 |i+6=>rw [List.getElem?_eq_none (by omega)];rfl
structure StatV where
 row:Int
 dom:Int
 port:Int
 mac:Int
def StatV.zero:StatV:=⟨0,0,0,0⟩
def statC (X:StatV):List Value:=[.int .i64 X.row,.int .i64 X.dom,.int .i64 X.port,.int .u64 X.mac]
def statR:Rdr StatV where
 n:=4
 rd:=fun _ _ vs X=>vs=statC X
 len:=by rintro w F vs X rfl;rfl
 one:=by rintro w F vs X rfl v hv;simp [statC] at hv;rcases hv with rfl|rfl|rfl|rfl<;>rfl
 keep:=fun h _ _=>h
theorem ncells_stat:Tryz.prog.cellsOf 89=4:=by kernel_rfl
theorem stat_of:statR.Of Tryz.prog 89:=fun H enc w sp held fuel cs x h=>by
 obtain ⟨xs,n,_,rfl,hl,hlen,hf⟩:=DataW.trod_struct Tryz.underlying89 h;rw [ncells_stat] at hl
 have hx:∀i,i<4→∃y,xs[i]?=some y:=fun i hi=>⟨_,List.getElem?_eq_getElem (by rw [hlen];exact hi)⟩
 obtain ⟨z0,q0⟩:=vBm (cs:=cs) 0 (hf 0 _ rfl) (hx 0 (by omega)) vAl (vBf Tryz.underlying3);obtain ⟨z1,q1⟩:=vBm 1 (hf 1 _ rfl) (hx 1 (by omega)) vAl (vBf Tryz.underlying3);obtain ⟨z2,q2⟩:=vBm 2 (hf 2 _ rfl) (hx 2 (by omega)) vAl (vBf Tryz.underlying3);obtain ⟨z3,q3⟩:=vBm 3 (hf 3 _ rfl) (hx 3 (by omega)) vGy (vBf Tryz.underlying32);refine ⟨⟨z0,z1,z2,z3⟩,?_⟩
 show cs=statC _
 apply List.ext_getElem?
 intro i
 match i with
 |0=>rw [vAg q0];rfl
 |1=>rw [vAg q1];rfl
 |2=>rw [vAg q2];rfl
 |3=>rw [vAg q3];rfl
 |i+4=>rw [List.getElem?_eq_none (by omega)];rfl
structure FloodV where
 row:Int
 dev:Int
 vni:Int
 addrs:List Int
def FloodV.zero:FloodV:=⟨0,0,0,[]⟩
def floodC (X:FloodV) (s_addrs:Sl3):List Value:=[.int .i64 X.row,.int .i64 X.dev,.int .i64 X.vni,.slice s_addrs.A s_addrs.n s_addrs.c]
def floodR:Rdr FloodV where
 n:=4
 rd:=fun w F vs X=>∃s_addrs,vs=floodC X s_addrs∧RSl (Rdr.int .u32) w F s_addrs.A s_addrs.n s_addrs.c X.addrs
 len:=by rintro w F vs X ⟨s_addrs,rfl,_⟩;rfl
 one:=by rintro w F vs X ⟨s_addrs,rfl,_⟩ v hv;simp [floodC] at hv;rcases hv with rfl|rfl|rfl|rfl<;>rfl
 keep:=by rintro w w' F F' vs X ⟨s_addrs,rfl,h_addrs⟩ hb hF;exact ⟨s_addrs,rfl,h_addrs.keep hb hF⟩
theorem vIl:Tryz.prog.cellsOf 71=4:=by kernel_rfl
theorem flood_of:floodR.Of Tryz.prog 71:=fun H enc w sp held fuel cs x h=>by
 obtain ⟨xs,n,_,rfl,hl,hlen,hf⟩:=DataW.trod_struct Tryz.underlying71 h;rw [vIl] at hl
 have hx:∀i,i<4→∃y,xs[i]?=some y:=fun i hi=>⟨_,List.getElem?_eq_getElem (by rw [hlen];exact hi)⟩
 obtain ⟨z0,q0⟩:=vBm (cs:=cs) 0 (hf 0 _ rfl) (hx 0 (by omega)) vAl (vBf Tryz.underlying3);obtain ⟨z1,q1⟩:=vBm 1 (hf 1 _ rfl) (hx 1 (by omega)) vAl (vBf Tryz.underlying3);obtain ⟨z2,q2⟩:=vBm 2 (hf 2 _ rfl) (hx 2 (by omega)) vAl (vBf Tryz.underlying3);obtain ⟨z3,A3,n3,c3,q3,r3⟩:=vBm 3 (hf 3 _ rfl) (hx 3 (by omega)) ncells_uints of_uints;refine ⟨⟨z0,z1,z2,z3⟩,⟨A3,n3,c3⟩,?_,r3⟩
 apply List.ext_getElem?
 intro i
 match i with
 |0=>rw [vAg q0];rfl
 |1=>rw [vAg q1];rfl
 |2=>rw [vAg q2];rfl
 |3=>rw [vAg q3];rfl
 |i+4=>rw [List.getElem?_eq_none (by omega)];rfl
structure VrfV where
 row:Int
 dev:Int
 name:List UInt8
 imports:List Int
 exports:List Int
def VrfV.zero:VrfV:=⟨0,0,[],[],[]⟩
def vrfC (X:VrfV) (s_imports s_exports:Sl3):List Value:=[.int .i64 X.row,.int .i64 X.dev,.string (str X.name),.slice s_imports.A s_imports.n s_imports.c,.slice s_exports.A s_exports.n s_exports.c]
def vrfR:Rdr VrfV where
 n:=5
 rd:=fun w F vs X=>∃s_imports s_exports,vs=vrfC X s_imports s_exports∧RSl (Rdr.int .i64) w F s_imports.A s_imports.n s_imports.c X.imports∧RSl (Rdr.int .i64) w F s_exports.A s_exports.n s_exports.c X.exports
 len:=by rintro w F vs X ⟨s_imports,s_exports,rfl,_⟩;rfl
 one:=by rintro w F vs X ⟨s_imports,s_exports,rfl,_⟩ v hv;simp [vrfC] at hv;rcases hv with rfl|rfl|rfl|rfl|rfl<;>rfl
 keep:=by rintro w w' F F' vs X ⟨s_imports,s_exports,rfl,h_imports,h_exports⟩ hb hF;exact ⟨s_imports,s_exports,rfl,h_imports.keep hb hF,h_exports.keep hb hF⟩
theorem vIb:Tryz.prog.cellsOf 74=5:=by kernel_rfl
theorem vrf_of:vrfR.Of Tryz.prog 74:=fun H enc w sp held fuel cs x h=>by
 obtain ⟨xs,n,_,rfl,hl,hlen,hf⟩:=DataW.trod_struct Tryz.underlying74 h;rw [vIb] at hl
 have hx:∀i,i<5→∃y,xs[i]?=some y:=fun i hi=>⟨_,List.getElem?_eq_getElem (by rw [hlen];exact hi)⟩
 obtain ⟨z0,q0⟩:=vBm (cs:=cs) 0 (hf 0 _ rfl) (hx 0 (by omega)) vAl (vBf Tryz.underlying3);obtain ⟨z1,q1⟩:=vBm 1 (hf 1 _ rfl) (hx 1 (by omega)) vAl (vBf Tryz.underlying3);obtain ⟨z2,q2⟩:=vBm 2 (hf 2 _ rfl) (hx 2 (by omega)) vCa (of_str Tryz.underlying9);obtain ⟨z3,A3,n3,c3,q3,r3⟩:=vBm 3 (hf 3 _ rfl) (hx 3 (by omega)) vEs of_ints;obtain ⟨z4,A4,n4,c4,q4,r4⟩:=vBm 4 (hf 4 _ rfl) (hx 4 (by omega)) vEs of_ints
 refine ⟨⟨z0,z1,z2,z3,z4⟩,⟨A3,n3,c3⟩,⟨A4,n4,c4⟩,?_,r3,r4⟩
 apply List.ext_getElem?
 intro i
 match i with
 |0=>rw [vAg q0];rfl
 |1=>rw [vAg q1];rfl
 |2=>rw [vAg q2];rfl
 |3=>rw [vAg q3];rfl
 |4=>rw [vAg q4];rfl
 |i+5=>rw [List.getElem?_eq_none (by omega)];rfl
structure IrbV where
 row:Int
 dom:Int
 vrf:Int
 addr:Int
 bits:Int
def IrbV.zero:IrbV:=⟨0,0,0,0,0⟩
def irbC (X:IrbV):List Value:=[.int .i64 X.row,.int .i64 X.dom,.int .i64 X.vrf,.int .u32 X.addr,.int .i64 X.bits]
def irbR:Rdr IrbV where
 n:=5
 rd:=fun _ _ vs X=>vs=irbC X
 len:=by rintro w F vs X rfl;rfl
 one:=by rintro w F vs X rfl v hv;simp [irbC] at hv;rcases hv with rfl|rfl|rfl|rfl|rfl<;>rfl
 keep:=fun h _ _=>h
theorem ncells_irb:Tryz.prog.cellsOf 98=5:=by kernel_rfl
theorem ncells_prefix:Tryz.prog.cellsOf 96=2:=by kernel_rfl
theorem irb_of:irbR.Of Tryz.prog 98:=fun H enc w sp held fuel cs x h=>by
 obtain ⟨xs,n,_,rfl,hl,hlen,hf⟩:=DataW.trod_struct Tryz.underlying98 h;rw [ncells_irb] at hl
 have hx:∀i,i<4→∃y,xs[i]?=some y:=fun i hi=>⟨_,List.getElem?_eq_getElem (by rw [hlen];exact hi)⟩
 obtain ⟨z0,q0⟩:=vBm (cs:=cs) 0 (hf 0 _ rfl) (hx 0 (by omega)) vAl (vBf Tryz.underlying3);obtain ⟨z1,q1⟩:=vBm 1 (hf 1 _ rfl) (hx 1 (by omega)) vAl (vBf Tryz.underlying3);obtain ⟨z2,q2⟩:=vBm 2 (hf 2 _ rfl) (hx 2 (by omega)) vAl (vBf Tryz.underlying3);obtain ⟨y3,e3⟩:=hx 3 (by omega);have g3:DataW.trod enc Tryz.prog w 0 sp held n 96 ((cs.drop 3).take (Tryz.prog.cellsOf 96))=some y3:=(hf 3 _ rfl).trans e3
 rw [ncells_prefix] at g3;obtain ⟨xs2,n2,_,rfl,hl2,hlen2,hf2⟩:=DataW.trod_struct Tryz.underlying96 g3
 have hx2:∀i,i<2→∃y,xs2[i]?=some y:=fun i hi=>⟨_,List.getElem?_eq_getElem (by rw [hlen2];exact hi)⟩
 obtain ⟨v0,d0⟩:=hx2 0 (by omega);have k0:DataW.trod enc Tryz.prog w 0 sp held n2 33 ((((cs.drop 3).take 2).drop 0).take (Tryz.prog.cellsOf 33))=some v0:=(hf2 0 _ rfl).trans d0;rw [vEt] at k0;obtain ⟨z3,q3⟩:=vBf Tryz.underlying33 _ _ _ _ _ _ _ _ k0;obtain ⟨v1,d1⟩:=hx2 1 (by omega);have k1:DataW.trod enc Tryz.prog w 0 sp held n2 3 ((((cs.drop 3).take 2).drop 1).take (Tryz.prog.cellsOf 3))=some v1:=(hf2 1 _ rfl).trans d1
 rw [vAl] at k1;obtain ⟨z4,q4⟩:=vBf Tryz.underlying3 _ _ _ _ _ _ _ _ k1
 have q3:(cs.drop 3).take 1=[Value.int .u32 z3]:=by have q:(((cs.drop 3).take 2).drop 0).take 1=[Value.int .u32 z3]:=q3;simpa [List.take_take] using q
 have q4:(cs.drop 4).take 1=[Value.int .i64 z4]:=by have q:(((cs.drop 3).take 2).drop 1).take 1=[Value.int .i64 z4]:=q4;simpa [List.drop_take,List.take_take] using q
 refine ⟨⟨z0,z1,z2,z3,z4⟩,?_⟩
 show cs=irbC _
 apply List.ext_getElem?
 intro i
 match i with
 |0=>rw [vAg q0];rfl
 |1=>rw [vAg q1];rfl
 |2=>rw [vAg q2];rfl
 |3=>rw [vAg q3];rfl
 |4=>rw [vAg q4];rfl
 |i+5=>rw [List.getElem?_eq_none (by omega)];rfl
structure NV where
 devices:List DevV
 ports:List PortV
 links:List LinkV
 domains:List DomV
 statics:List StatV
 floods:List FloodV
 vrfs:List VrfV
 irbs:List IrbV
def NV.zero:NV:=⟨[],[],[],[],[],[],[],[]⟩
structure NSl3 where
 dv:Sl3
 pt:Sl3
 lk:Sl3
 dm:Sl3
 st:Sl3
 fl:Sl3
 vr:Sl3
 ir:Sl3
def NSl3.nil:NSl3:=⟨Sl3.nil,Sl3.nil,Sl3.nil,Sl3.nil,Sl3.nil,Sl3.nil,Sl3.nil,Sl3.nil⟩
abbrev NF (w:World) (q:Nat) (S:NSl3):Prop:=w.cell? ⟨q,0,none⟩=some (.slice S.dv.A S.dv.n S.dv.c)∧w.cell? ⟨q,1,none⟩=some (.slice S.pt.A S.pt.n S.pt.c)∧w.cell? ⟨q,2,none⟩=some (.slice S.lk.A S.lk.n S.lk.c)∧w.cell? ⟨q,3,none⟩=some (.slice S.dm.A S.dm.n S.dm.c)∧w.cell? ⟨q,4,none⟩=some (.slice S.st.A S.st.n S.st.c)∧w.cell? ⟨q,5,none⟩=some (.slice S.fl.A S.fl.n S.fl.c)∧w.cell? ⟨q,6,none⟩=some (.slice S.vr.A S.vr.n S.vr.c)∧w.cell? ⟨q,7,none⟩=some (.slice S.ir.A S.ir.n S.ir.c)
abbrev nA (S:NSl3):Array Value:=#[.slice S.dv.A S.dv.n S.dv.c,.slice S.pt.A S.pt.n S.pt.c,.slice S.lk.A S.lk.n S.lk.c,.slice S.dm.A S.dm.n S.dm.c,.slice S.st.A S.st.n S.st.c,.slice S.fl.A S.fl.n S.fl.c,.slice S.vr.A S.vr.n S.vr.c,.slice S.ir.A S.ir.n S.ir.c]
abbrev zA:Array Value:=#[.slice none 0 0,.slice none 0 0,.slice none 0 0,.slice none 0 0,.slice none 0 0,.slice none 0 0,.slice none 0 0,.slice none 0 0]
def vBk (S:NSl3):List Value:=[.slice S.dv.A S.dv.n S.dv.c,.slice S.pt.A S.pt.n S.pt.c,.slice S.lk.A S.lk.n S.lk.c,.slice S.dm.A S.dm.n S.dm.c,.slice S.st.A S.st.n S.st.c,.slice S.fl.A S.fl.n S.fl.c,.slice S.vr.A S.vr.n S.vr.c,.slice S.ir.A S.ir.n S.ir.c]
def vAm (S:NSl3):Value:=.agg #[.slice S.dv.A S.dv.n S.dv.c,.slice S.pt.A S.pt.n S.pt.c,.slice S.lk.A S.lk.n S.lk.c,.slice S.dm.A S.dm.n S.dm.c,.slice S.st.A S.st.n S.st.c,.slice S.fl.A S.fl.n S.fl.c,.slice S.vr.A S.vr.n S.vr.c,.slice S.ir.A S.ir.n S.ir.c]
structure NRead (w:World) (F:Nat→Prop) (N:NV) (S:NSl3):Prop where
 dv:RSl devR w F S.dv.A S.dv.n S.dv.c N.devices
 pt:RSl portR w F S.pt.A S.pt.n S.pt.c N.ports
 lk:RSl linkR w F S.lk.A S.lk.n S.lk.c N.links
 dm:RSl domR w F S.dm.A S.dm.n S.dm.c N.domains
 st:RSl statR w F S.st.A S.st.n S.st.c N.statics
 fl:RSl floodR w F S.fl.A S.fl.n S.fl.c N.floods
 vr:RSl vrfR w F S.vr.A S.vr.n S.vr.c N.vrfs
 ir:RSl irbR w F S.ir.A S.ir.n S.ir.c N.irbs
theorem NRead.keep {w w':World} {F F':Nat→Prop} {N:NV} {S:NSl3} (h:NRead w F N S) (hb:∀b,F b→w'.heap[b]?=w.heap[b]?) (hF:∀b,F b→F' b):NRead w' F' N S:=⟨h.dv.keep hb hF,h.pt.keep hb hF,h.lk.keep hb hF,h.dm.keep hb hF,h.st.keep hb hF,h.fl.keep hb hF,h.vr.keep hb hF,h.ir.keep hb hF⟩
theorem NRead.up {w w':World} {N:NV} {S:NSl3} (h:NRead w (vAp w) N S) (hb:Below w.heap.size w w'):NRead w' (vAp w') N S:=h.keep (fun b h=>hb.block b h) (fun _ h=>Nat.lt_of_lt_of_le h hb.size)
def netR:Rdr NV where
 n:=8
 rd:=fun w F vs N=>∃S,vs=vBk S∧NRead w F N S
 len:=by rintro w F vs N ⟨S,rfl,_⟩;rfl
 one:=by rintro w F vs N ⟨S,rfl,_⟩ v hv;simp [vBk] at hv;rcases hv with rfl|rfl|rfl|rfl|rfl|rfl|rfl|rfl<;>rfl
 keep:=by rintro w w' F F' vs N ⟨S,rfl,h⟩ hb hF;exact ⟨S,rfl,h.keep hb hF⟩
theorem ncells_net:Tryz.prog.cellsOf 31=8:=by kernel_rfl
theorem vGn:Tryz.prog.cellsOf 22=1:=by kernel_rfl
theorem vIm:Tryz.prog.cellsOf 23=1:=by kernel_rfl
theorem ncells_links:Tryz.prog.cellsOf 24=1:=by kernel_rfl
theorem ncells_doms:Tryz.prog.cellsOf 25=1:=by kernel_rfl
theorem ncells_stats:Tryz.prog.cellsOf 26=1:=by kernel_rfl
theorem ncells_floods:Tryz.prog.cellsOf 27=1:=by kernel_rfl
theorem ncells_vrfs:Tryz.prog.cellsOf 28=1:=by kernel_rfl
theorem ncells_irbs:Tryz.prog.cellsOf 29=1:=by kernel_rfl
theorem net_of:netR.Of Tryz.prog 31:=fun H enc w sp held fuel cs x h=>by
 obtain ⟨xs,n,_,rfl,hl,hlen,hf⟩:=DataW.trod_struct Tryz.underlying31 h;rw [ncells_net] at hl
 have hx:∀i,i<8→∃y,xs[i]?=some y:=fun i hi=>⟨_,List.getElem?_eq_getElem (by rw [hlen];exact hi)⟩
 obtain ⟨z0,A0,n0,c0,q0,r0⟩:=vBm (cs:=cs) 0 (hf 0 _ rfl) (hx 0 (by omega)) vGn (vCt (R:=devR) Tryz.underlying22 vFs (by decide) dev_of);obtain ⟨z1,A1,n1,c1,q1,r1⟩:=vBm 1 (hf 1 _ rfl) (hx 1 (by omega)) vIm (vCt (R:=portR) Tryz.underlying23 vGo (by decide) port_of);obtain ⟨z2,A2,n2,c2,q2,r2⟩:=vBm 2 (hf 2 _ rfl) (hx 2 (by omega)) ncells_links (vCt (R:=linkR) Tryz.underlying24 ncells_link (by decide) link_of)
 obtain ⟨z3,A3,n3,c3,q3,r3⟩:=vBm 3 (hf 3 _ rfl) (hx 3 (by omega)) ncells_doms (vCt (R:=domR) Tryz.underlying25 ncells_dom (by decide) dom_of);obtain ⟨z4,A4,n4,c4,q4,r4⟩:=vBm 4 (hf 4 _ rfl) (hx 4 (by omega)) ncells_stats (vCt (R:=statR) Tryz.underlying26 ncells_stat (by decide) stat_of);obtain ⟨z5,A5,n5,c5,q5,r5⟩:=vBm 5 (hf 5 _ rfl) (hx 5 (by omega)) ncells_floods (vCt (R:=floodR) Tryz.underlying27 vIl (by decide) flood_of)
 obtain ⟨z6,A6,n6,c6,q6,r6⟩:=vBm 6 (hf 6 _ rfl) (hx 6 (by omega)) ncells_vrfs (vCt (R:=vrfR) Tryz.underlying28 vIb (by decide) vrf_of);obtain ⟨z7,A7,n7,c7,q7,r7⟩:=vBm 7 (hf 7 _ rfl) (hx 7 (by omega)) ncells_irbs (vCt (R:=irbR) Tryz.underlying29 ncells_irb (by decide) irb_of);refine ⟨⟨z0,z1,z2,z3,z4,z5,z6,z7⟩,⟨⟨A0,n0,c0⟩,⟨A1,n1,c1⟩,⟨A2,n2,c2⟩,⟨A3,n3,c3⟩,⟨A4,n4,c4⟩,⟨A5,n5,c5⟩,⟨A6,n6,c6⟩,⟨A7,n7,c7⟩⟩,?_,⟨r0,r1,r2,r3,r4,r5,r6,r7⟩⟩
 apply List.ext_getElem?
 intro i
 match i with
 |0=>rw [vAg q0];rfl
 |1=>rw [vAg q1];rfl
 |2=>rw [vAg q2];rfl
 |3=>rw [vAg q3];rfl
 |4=>rw [vAg q4];rfl
 |5=>rw [vAg q5];rfl
 |6=>rw [vAg q6];rfl
 |7=>rw [vAg q7];rfl
 |i+8=>rw [List.getElem?_eq_none (by omega)];rfl
end Go.Proofs.YtgmflecelnefcaaGreat
