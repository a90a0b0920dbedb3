import Derived.Test.YtgnkpbgaoiaefaaGreatPb02
import Derived.Test.YtgnkpbgaoiaefaaGreatPb07
import Derived.Test.YtgnkpbgaoiaefaaGreatPb01
import Derived.Laws.AppendOwnNone
import Derived.Laws.CopyOwn
import Derived.Deep.RegionHeldLaw
import Derived.Lib.SmallJoins
import Derived.Lib.SliceRun
import Derived.Deep.MidRow
import Derived.Great.Walk
set_option maxRecDepth 100000
set_option maxHeartbeats 40000000
namespace Go.Proofs.YtgnkpbgaoiaefaaGreat
open Go.Lib (hid)
open Go.RowKit
theorem vBg {k:IntKind} {w:World} {F:Nat→Prop} {A:Option Addr} {n c:Nat} {xs:List Int} (h:RSl (Rdr.int k) w F A n c xs):ISl w k A n c xs:=
 ⟨h.1,h.2.1,h.2.2.1,fun hn=>by
   obtain ⟨b,off,e,_,hl,hc⟩:=h.2.2.2.2 hn;refine ⟨b,off,e,hl,fun j hj=>?_⟩
   have hlt:j<xs.length:=by rw [h.1];exact hj
   obtain ⟨vs,rfl,h2⟩:=hc j xs[j] (List.getElem?_eq_getElem hlt);have h3:=h2 0 (.int k xs[j]) rfl;rw [show off+j * (Rdr.int k).n+0=off+j by show off+j * 1+0=off+j;omega] at h3;rw [h3]
   simp [List.getD,hlt]⟩
structure NBox (w:World) (q:Nat) (S:NSl3):Prop where
 c0:w.cell? ⟨q,0,none⟩=some (.slice S.dv.A S.dv.n S.dv.c)
 c1:w.cell? ⟨q,1,none⟩=some (.slice S.pt.A S.pt.n S.pt.c)
 c2:w.cell? ⟨q,2,none⟩=some (.slice S.lk.A S.lk.n S.lk.c)
 c3:w.cell? ⟨q,3,none⟩=some (.slice S.dm.A S.dm.n S.dm.c)
 c4:w.cell? ⟨q,4,none⟩=some (.slice S.st.A S.st.n S.st.c)
 c5:w.cell? ⟨q,5,none⟩=some (.slice S.fl.A S.fl.n S.fl.c)
 c6:w.cell? ⟨q,6,none⟩=some (.slice S.vr.A S.vr.n S.vr.c)
 c7:w.cell? ⟨q,7,none⟩=some (.slice S.ir.A S.ir.n S.ir.c)
 lt:q<w.heap.size
theorem NBox.new (w:World) (S:NSl3) (T:TypeId):NBox (w.alloc (.cells (nA S) T)) w.heap.size S:=by
 constructor<;>simp
theorem NBox.below {w w':World} {q:Nat} {S:NSl3} (h:NBox w q S) (hb:Below w.heap.size w w'):NBox w' q S:=
 ⟨(hb.cell (p:=⟨q,0,none⟩) h.lt).trans h.c0,(hb.cell (p:=⟨q,1,none⟩) h.lt).trans h.c1,(hb.cell (p:=⟨q,2,none⟩) h.lt).trans h.c2,(hb.cell (p:=⟨q,3,none⟩) h.lt).trans h.c3,(hb.cell (p:=⟨q,4,none⟩) h.lt).trans h.c4,(hb.cell (p:=⟨q,5,none⟩) h.lt).trans h.c5,(hb.cell (p:=⟨q,6,none⟩) h.lt).trans h.c6,(hb.cell (p:=⟨q,7,none⟩) h.lt).trans h.c7,Nat.lt_of_lt_of_le h.lt hb.size⟩
def plB (i m:Int):Bool:=decide (0≤i) && decide (i<m)
theorem vBm (i m:Int):plB i m=true↔0≤i∧i<m:=by unfold plB;simp
theorem vBo (i m:Int) (w:World):Calls Tryz.prog 147 #[.int .i64 i,.int .i64 m] w fun e w'=>e=.returned (.bool (plB i m))∧w=w':=by
 unfold plB
 by_cases h0:0≤i
 · by_cases h1:i<m
   · have e:(decide (0≤i) && decide (i<m))=true:=by simp;omega
     rw [e]
     go_enter Tryz.func147,Tryz.ntmps147
     go_wp2;go_ret;exact ⟨rfl,rfl⟩
   · have e:(decide (0≤i) && decide (i<m))=false:=by simp;omega
     rw [e]
     go_enter Tryz.func147,Tryz.ntmps147
     go_wp2;go_ret;exact ⟨rfl,rfl⟩
 · have e:(decide (0≤i) && decide (i<m))=false:=by simp;omega
   rw [e]
   go_enter Tryz.func147,Tryz.ntmps147
   go_wp2;go_ret;exact ⟨rfl,rfl⟩
def memB (xs:List Int) (x:Int):Bool:=decide (x∈xs)
theorem memB_take {xs:List Int} {k:Nat} {x:Int} (h:k<xs.length) (ha:x∉xs.take k) (hx:xs.getD k 0≠x):x∉xs.take (k+1):=by
 rw [List.take_succ_eq_append_getElem h];intro hm
 rcases List.mem_append.1 hm with hm|hm
 · exact ha hm
 · have:=List.mem_singleton.1 hm
   exact hx (by rw [this];simp [List.getD,h])
theorem rin_any (A:Option Addr) (n c:Nat) (xs:List Int) (x:Int) (w:World) (h:ISl w .i64 A n c xs):Calls Tryz.prog 149 #[.slice A n c,.int .i64 x] w fun e w'=>e=.returned (.bool (memB xs x))∧w=w':=by
 have hle:=h.le;have hcap:=h.cap;have HL:=hid h.len;have H:=hid h;have E1:=hid (show x∈xs→memB xs x=true from fun hx=>decide_eq_true hx);have E0:=hid (show x∉xs→memB xs x=false from fun hx=>decide_eq_false hx);generalize memB xs x=V at *;clear h
 go_enter Tryz.func149,Tryz.ntmps149
 go_wp2
 go_loopw [5] (fun i wr=>∃k:Nat,i=.int .i64 k∧k≤n∧wr=w∧x∉xs.take k) (fun i _=>match i with| .int _ y=>(n - y).toNat|_=>0)
 case atStart=>exact ⟨0,rfl,by omega,rfl,by simp⟩
 case round=>
  obtain ⟨k,rfl,hk,rfl,hx⟩:=hrel;have HX:=hid hx;clear hx
  by_cases hlt:k<n
  · obtain ⟨b,off,rfl,hb,hc⟩:=H.out.2.2.2 (by omega)
    have c0:=hc k hlt
    have hk2:k<xs.length:=by rw [HL.out];exact hlt
    have NX:=hid (fun hy=>memB_take hk2 HX.out hy);have YX:=hid (show xs.getD k 0=x→x∈xs from fun e=>by rw [←e];simp [List.getD,hk2]);generalize xs.getD k 0=y at *
    have lt2:(k:Int)<(n:Int):=by omega
    clear hc hk2
    by_cases hy:y=x
    · have ev:=E1.out (YX.out hy)
      have ey:(y == x)=true:=by simpa using hy
      subst ev;go_wp2;go_ret;exact ⟨rfl,rfl⟩
    · have ey:(y == x)=false:=by simpa using hy
      have N2:=hid (NX.out hy);go_wp2
      go_roundw
      case rel=>exact ⟨k+1,by simp,by omega,(by first|rfl|trivial),N2.out⟩
      case measure=>simp only [];omega
  · have ev:=E0.out (by have:=HX.out;rwa [List.take_of_length_le (by rw [HL.out];omega)] at this)
    have lt2:¬(k:Int)<(n:Int):=by omega
    subst ev;go_wp2;go_ret;exact ⟨rfl,rfl⟩
def rsB (xs:List Int) (hi:Int):Bool:=decide (xs=[]) || vBw xs 1 hi
theorem vGr (A:Option Addr) (n c:Nat) (xs:List Int) (hi:Int) (w:World) (h:ISl w .i64 A n c xs):Calls Tryz.prog 150 #[.slice A n c,.int .i64 hi] w fun e w'=>e=.returned (.bool (rsB xs hi))∧Drew w w':=by
 have hl:=h.len
 by_cases hn:n=0
 · subst hn
   obtain rfl:xs=[]:=List.eq_nil_of_length_eq_zero hl;rw [show rsB [] hi=true by unfold rsB;simp];clear h hl
   go_enter Tryz.func150,Tryz.ntmps150
   go_wp2;go_ret;exact ⟨rfl,Drew.refl _⟩
 · have ne:((n:Int) == 0)=false:=by simp;omega
   rw [show rsB xs hi=vBw xs 1 hi by unfold rsB;rw [decide_eq_false (fun e=>by rw [e] at hl;exact hn hl.symm)];rfl];have R:=hid (vIj A n c xs 1 hi w h);clear h hl hn
   go_enter Tryz.func150,Tryz.ntmps150
   go_wp2_with (go_at_call 180;(with_reducible refine R.out.mono ?_);rintro e w1 ⟨rfl,hd⟩);go_ret;exact ⟨rfl,hd⟩
def mbrB (p:PortV) (v:Int):Bool:=decide (v≠0) && (decide (p.native=v) || memB p.tagged v)
theorem rmember_any (p:PortV) (s:Sl3) (v:Int) (w:World) (F:Nat→Prop) (hF:∀b,F b→b<w.heap.size) (h:RSl (Rdr.int .i64) w F s.A s.n s.c p.tagged):Calls Tryz.prog 151 #[.agg (vJc p s).toArray,.int .i64 v] w fun e w'=>e=.returned (.bool (mbrB p v))∧Below w.heap.size w w':=by
 have IN:=hid (fun (w':World) (hb:Below w.heap.size w w')=>rin_any s.A s.n s.c p.tagged v w' (vBg (h.below hF hb)));unfold vJc mbrB
 by_cases h0:v=0
 · have e:(decide (v≠0) && (decide (p.native=v) || memB p.tagged v))=false:=by rw [decide_eq_false (by simpa using h0)];rfl
   rw [e]
   have ne:(v != 0)=false:=by simpa using h0
   clear h h0 e
   go_enter Tryz.func151,Tryz.ntmps151
   go_wp2;go_ret;exact ⟨rfl,(Below.refl _ _).alloc (Nat.le_refl _) _⟩
 · have ne:(v != 0)=true:=by simpa using h0
   by_cases h1:p.native=v
   · have e:(decide (v≠0) && (decide (p.native=v) || memB p.tagged v))=true:=by rw [decide_eq_true h0,decide_eq_true h1];rfl
     rw [e]
     have ne2:(p.native == v)=true:=by simpa using h1
     clear h h0 e h1
     go_enter Tryz.func151,Tryz.ntmps151
     go_wp2;go_ret;exact ⟨rfl,(Below.refl _ _).alloc (Nat.le_refl _) _⟩
   · have e:(decide (v≠0) && (decide (p.native=v) || memB p.tagged v))=memB p.tagged v:=by rw [decide_eq_true h0,decide_eq_false h1];rfl
     rw [e]
     have ne2:(p.native == v)=false:=by simpa using h1
     generalize memB p.tagged v=V at *;clear h h0 e h1
     go_enter Tryz.func151,Tryz.ntmps151
     go_wp2_with (go_at_call 149;(with_reducible refine (IN.out _ ((Below.refl _ _).alloc (Nat.le_refl _) _)).mono ?_);rintro e w1 ⟨rfl,rfl⟩);go_ret;exact ⟨rfl,(Below.refl _ _).alloc (Nat.le_refl _) _⟩
def atK:List DomV→Int→Int→Nat→Int
 | [],_,_,_=> -1
 |d :: r,dev,v,k=>if d.dev=dev∧d.vlan=v then (k:Int) else atK r dev v (k+1)
def atF (N:NV) (dev v:Int):Int:=atK N.domains dev v 0
theorem atK_at {xs:List DomV} {k:Nat} (h:k<xs.length) (dev v:Int):atK (xs.drop k) dev v k=if (xs.getD k DomV.zero).dev=dev∧(xs.getD k DomV.zero).vlan=v then (k:Int) else atK (xs.drop (k+1)) dev v (k+1):=by
 rw [List.drop_eq_getElem_cons h,atK];simp [List.getD,h]
theorem rat_any (N:NV) (S:NSl3) (dev v:Int) (w:World) (h:NRead w (vAs w) N S):Calls Tryz.prog 20 #[vBb S,.int .i64 dev,.int .i64 v] w fun e w'=>e=.returned (.int .i64 (atF N dev v))∧Below w.heap.size w w':=by
 have H:=hid h.dm;have hle:=h.dm.le;have hcap:=h.dm.cap;have HL:=hid h.dm.len;have E:=hid (show atF N dev v=atK (N.domains.drop 0) dev v 0 from rfl);generalize atF N dev v=V at *;have NB:=hid (NBox.new w S 31);clear h;unfold vBb
 go_enter Tryz.func20,Tryz.ntmps20
 go_wp2;obtain ⟨w1,hw1⟩:∃w1,w.alloc (.cells (nA S) 31)=w1:=⟨_,rfl⟩;have B1:=hid (show Below w.heap.size w w1 by rw [←hw1];exact (Below.refl _ _).alloc (Nat.le_refl _) _);rw [hw1] at NB ⊢;clear hw1;have c3:=NB.out.c3
 go_loopw [7] (fun i wr=>∃k:Nat,i=.int .i64 k∧k≤S.dm.n∧wr=w1∧V=atK (N.domains.drop k) dev v k) (fun i _=>match i with| .int _ y=>(S.dm.n - y).toNat|_=>0)
 case atStart=>exact ⟨0,rfl,by omega,rfl,E.out⟩
 case round=>
  obtain ⟨k,rfl,hk,hwr,hv⟩:=hrel;subst hwr;have HV:=hid hv;clear hv
  by_cases hlt:k<S.dm.n
  · obtain ⟨b0,o0,vs,e0,_,hb0,⟨s,rfl,_⟩,r0⟩:=vAj H.out k hlt DomV.zero
    have hk2:k<N.domains.length:=by rw [HL.out];exact hlt
    have AT:=hid (atK_at hk2 dev v);generalize N.domains.getD k DomV.zero=D at *;have R1:=vAb r0 (B1.out.block b0 hb0);have d0:=R1 0 _ rfl;have d1:=R1 1 _ rfl;simp only [Nat.add_zero] at d0;rw [show o0+k * domR.n=o0+k * 6 from rfl] at d0 d1
    have lt2:(k:Int)<(S.dm.n:Int):=by omega
    rw [e0] at c3 ⊢;clear r0 R1 hk2
    by_cases hd:D.dev=dev
    · have x1:(D.dev == dev)=true:=by simpa using hd
      by_cases hv2:D.vlan=v
      · have x2:(D.vlan == v)=true:=by simpa using hv2
        have EV:=hid (show V=(k:Int) by rw [HV.out,AT.out,if_pos ⟨hd,hv2⟩]);clear hd hv2;go_wp2;go_ret;exact ⟨by rw [EV.out];rfl,B1.out⟩
      · have x2:(D.vlan == v)=false:=by simpa using hv2
        have EV:=hid (show V=atK (N.domains.drop (k+1)) dev v (k+1) by rw [HV.out,AT.out,if_neg (by intro g;exact hv2 g.2)]);go_wp2
        go_roundw
        case rel=>exact ⟨k+1,by simp,by omega,(by first|rfl|trivial),EV.out⟩
        case measure=>simp only [];omega
    · have x1:(D.dev == dev)=false:=by simpa using hd
      have EV:=hid (show V=atK (N.domains.drop (k+1)) dev v (k+1) by rw [HV.out,AT.out,if_neg (by intro g;exact hd g.1)]);go_wp2
      go_roundw
      case rel=>exact ⟨k+1,by simp,by omega,(by first|rfl|trivial),EV.out⟩
      case measure=>simp only [];omega
  · have lt2:¬(k:Int)<(S.dm.n:Int):=by omega
    have EV:=hid (show V= -1 by rw [HV.out,List.drop_of_length_le (by rw [HL.out];omega)];rfl);go_wp2;go_ret;exact ⟨by rw [EV.out];rfl,B1.out⟩
def TyI (w:World) (b:Nat):Prop:=∃cur T,w.heap[b]?=some (.cells cur T)∧(T=3∨T=33)
theorem TyI.lt {w:World} {b:Nat} (h:TyI w b):b<w.heap.size:=by
 obtain ⟨cur,T,h,_⟩:=h
 rcases Nat.lt_or_ge b w.heap.size with h'|h'
 · exact h'
 · rw [Array.getElem?_eq_none h'] at h;cases h
theorem TyI.same {w w':World} {b:Nat} (h:TyI w b) (e:w'.heap[b]?=w.heap[b]?):TyI w' b:=by
 obtain ⟨cur,T,h,g⟩:=h;exact ⟨cur,T,e.trans h,g⟩
theorem TyI.below {w w':World} {b:Nat} (h:TyI w b) (hb:Below w.heap.size w w'):TyI w' b:=h.same (hb.block b h.lt)
theorem TyI.live {w:World} {b:Nat} (h:TyI w b) (o:Nat):w.frozen? ⟨b,o,none⟩=false:=by
 obtain ⟨cur,T,h,_⟩:=h;simp [World.frozen?,h]
theorem own_ty {w:World} {B:Nat} {e:TypeId} {A:Option Addr} {n m c sz:Nat} {xs:List Value} (h:w.ownsRow B e sz (.slice A n c) m xs) (he:e=3∨e=33):∀ad,A=some ad→B≤ad.block∧TyI w ad.block:=fun ad hA=>by
 rcases h.2 with ⟨hv,_⟩|⟨g,cap,cur,hv,hB,hh,_⟩
 · injection hv with e1;rw [hA] at e1;cases e1
 · injection hv with e1
   rw [hA] at e1
   cases e1
   exact ⟨hB,cur,e,hh,he⟩
open Go.Lib (byteCells)
def u8 (x:Int):UInt8:=UInt8.ofNat x.toNat
def bat (l:List UInt8) (j:Nat):Int:=((l.getD j 0).toNat:Int)
theorem bat_lo (l:List UInt8) (j:Nat):0≤bat l j:=by unfold bat;omega
section
variable {w w':World} {A:Option Addr} {n c:Nat} {l:List UInt8}
end
theorem own_shape {w:World} {B n:Nat} {e:TypeId} {v:Value} {xs:List Value} (h:w.ownsRow B e 1 v n xs):∃A c,v=.slice A n c:=by
 rcases h.2 with ⟨rfl,rfl⟩|⟨g,cap,cur,rfl,_⟩
 · exact ⟨_,_,rfl⟩
 · exact ⟨_,_,rfl⟩
open Go.Lib (byteCells)
open Go.Lib (byteCells)
open Go.Lib (byteCells)
open Go.Lib (byteCells)
open Go.Lib (byteCells)
section
variable {w w':World} {q:Nat} {v0 v1 v2 v3:Value}
end
open Go.Lib (byteCells)
def Ex (q:Nat) (w w':World):Prop:=w'.os=w.os∧w'.tape=w.tape∧w'.output=w.output∧w.heap.size≤w'.heap.size∧∀k,k≠q→k<w.heap.size→w'.heap[k]?=w.heap[k]?
section
variable {q:Nat} {w w' w'':World}
theorem Ex.of_below (h:Below w.heap.size w w'):Ex q w w':=⟨h.os,h.tape,h.output,h.size,fun k _ hk=>h.block k hk⟩
theorem Ex.refl (q:Nat) (w:World):Ex q w w:=Ex.of_below (Below.refl _ _)
theorem Ex.trans (h:Ex q w w') (g:Ex q w' w''):Ex q w w'':=by
 obtain ⟨h0,h1,h2,h3,h4⟩:=h;obtain ⟨g0,g1,g2,g3,g4⟩:=g;exact ⟨g0.trans h0,g1.trans h1,g2.trans h2,Nat.le_trans h3 g3,fun k hq hk=>(g4 k hq (by omega)).trans (h4 k hq hk)⟩
theorem Ex.set (h:Ex q w w') (j:Nat) (v:Value):Ex q w (w'.setCell ⟨q,j,none⟩ v):=
 h.trans ⟨rfl,rfl,rfl,by simp [World.setCell],fun k hk _=>Below.heap_setCell _ _ _ _ hk⟩
theorem Ex.alloc (h:Ex q w w') (o:Obj):Ex q w (w'.alloc o):=h.trans (Ex.of_below ((Below.refl _ _).alloc (Nat.le_refl _) o))
theorem Ex.drewN (h:Ex q w w') (m:Nat):Ex q w (w'.drewN m):=h
theorem Ex.size (h:Ex q w w'):w.heap.size≤w'.heap.size:=h.2.2.2.1
theorem Ex.cell (h:Ex q w w') {b:Nat} (o:Nat) (hb:b<w.heap.size) (hq:b≠q):w'.cell? ⟨b,o,none⟩=w.cell? ⟨b,o,none⟩:=World.cell?_of_block (w:=w) (h.2.2.2.2 b hq hb)
theorem Ex.frozen (h:Ex q w w') {b:Nat} (o:Nat) (hb:b<w.heap.size) (hq:b≠q):w'.frozen? ⟨b,o,none⟩=w.frozen? ⟨b,o,none⟩:=World.frozen?_of_block (w:=w) (h.2.2.2.2 b hq hb)
theorem Below.ex {B:Nat} {a:World} (g:Below B a w) (h:Ex q w w') (hB:B≤q) (hs:B≤w.heap.size):Below B a w':=
 g.trans ⟨h.1,h.2.1,h.2.2.1,h.2.2.2.1,fun k hk=>h.2.2.2.2 k (by omega) (by omega)⟩
end
section
variable {w w':World} {q:Nat} {v0 v1 v2 v3 v4 v5 v6 v7 v8 x:Value}
end
structure LV where
 row:Int
 kind:Int
 dev:List UInt8
 port:List UInt8
 peer:List UInt8
 far:List UInt8
 name:List UInt8
 mac:Int
 addr:Int
 bits:Int
 vlan:Int
 num:Int
 cost:Int
 tagged:List Int
 imports:List Int
 exports:List Int
 addrs:List Int
structure SlV where
 A:Option Addr
 n:Nat
 c:Nat
def SlV.val (s:SlV):Value:=.slice s.A s.n s.c
def SlV.nil:SlV:=⟨none,0,0⟩
def FSl (w:World) (q:Nat) (k:IntKind) (s:SlV) (xs:List Int):Prop:=ISl w k s.A s.n s.c xs∧∀ad,s.A=some ad→q<ad.block
section
variable {w w':World} {q:Nat} {k:IntKind} {s:SlV} {xs:List Int}
theorem FSl.nil:FSl w q k SlV.nil []:=⟨ISl.nil,fun _ h=>by cases h⟩
theorem FSl.mono {p:Nat} (h:FSl w q k s xs) (hp:p≤q):FSl w p k s xs:=⟨h.1,fun ad g=>Nat.lt_of_le_of_lt hp (h.2 ad g)⟩
theorem FSl.below (h:FSl w q k s xs) (hb:Below w.heap.size w w'):FSl w' q k s xs:=⟨h.1.below hb,h.2⟩
theorem FSl.set (h:FSl w q k s xs) (j:Nat) (v:Value):FSl (w.setCell ⟨q,j,none⟩ v) q k s xs:=by
 refine ⟨⟨h.1.1,h.1.2.1,h.1.2.2.1,fun hn=>?_⟩,h.2⟩;obtain ⟨b,off,e,hb,hc⟩:=h.1.2.2.2 hn;refine ⟨b,off,e,by simpa using hb,fun i hi=>?_⟩;rw [World.cell?_setCell_other _ _ _ _ (by intro e1;injection e1 with e2 _;have h2:q<b:=h.2 _ e;omega)];exact hc i hi
theorem FSl.ex (h:FSl w q k s xs) (g:Ex q w w'):FSl w' q k s xs:=by
 refine ⟨⟨h.1.1,h.1.2.1,h.1.2.2.1,fun hn=>?_⟩,h.2⟩;obtain ⟨b,off,e,hb,hc⟩:=h.1.2.2.2 hn;exact ⟨b,off,e,Nat.lt_of_lt_of_le hb g.size,fun i hi=>(g.cell (off+i) hb (by have h2:q<b:=h.2 _ e;omega)).trans (hc i hi)⟩
end
def BoxF (w:World) (q n:Nat) (f:Nat→Value):Prop:=(∀j,j<n→w.cell? ⟨q,j,none⟩=some (f j))∧∀o,w.frozen? ⟨q,o,none⟩=false
section
variable {w w':World} {q n:Nat} {f g:Nat→Value}
theorem BoxF.cell (h:BoxF w q n f) (j:Nat) (hj:j<n):w.cell? ⟨q,j,none⟩=some (f j):=h.1 j hj
theorem BoxF.lt (h:BoxF w q n f) (hn:0<n):q<w.heap.size:=World.block_lt_of_cell? w _ (h.1 0 hn)
theorem BoxF.same (h:BoxF w q n f) (hc:∀o,w'.cell? ⟨q,o,none⟩=w.cell? ⟨q,o,none⟩) (hf:∀o,w'.frozen? ⟨q,o,none⟩=w.frozen? ⟨q,o,none⟩):BoxF w' q n f:=
 ⟨fun j hj=>(hc j).trans (h.1 j hj),fun o=>(hf o).trans (h.2 o)⟩
theorem BoxF.below (h:BoxF w q n f) (hn:0<n) (b:Below w.heap.size w w'):BoxF w' q n f:=
 h.same (fun o=>b.cell (p:=⟨q,o,none⟩) (h.lt hn)) (fun o=>b.frozen (p:=⟨q,o,none⟩) (h.lt hn))
theorem BoxF.set (h:BoxF w q n f) (j:Nat) (hj:j<n) (v:Value):BoxF (w.setCell ⟨q,j,none⟩ v) q n (fun i=>if i=j then v else f i):=by
 refine ⟨fun i hi=>?_,fun o=>(World.frozen?_setCell _ _ _ _).trans (h.2 o)⟩
 show _=some (if i=j then v else f i)
 by_cases e:i=j
 · subst e
   rw [if_pos rfl];exact World.cell?_setCell_same _ _ _ (h.1 i hi)
 · rw [if_neg e,World.cell?_setCell_other _ _ _ _ (by intro e1;injection e1 with _ e2;exact e e2.symm)]
   exact h.1 i hi
theorem BoxF.is (h:BoxF w q n f) (e:∀i,i<n→f i=g i):BoxF w q n g:=⟨fun j hj=>by rw [←e j hj];exact h.1 j hj,h.2⟩
end
def lc (L:LV) (s1 s2 s3 s4:SlV):Nat→Value
 |0=>.int .i64 L.row
 |1=>.int .i64 L.kind
 |2=>.string (str L.dev)
 |3=>.string (str L.port)
 |4=>.string (str L.peer)
 |5=>.string (str L.far)
 |6=>.string (str L.name)
 |7=>.int .u64 L.mac
 |8=>.int .u32 L.addr
 |9=>.int .i64 L.bits
 |10=>.int .i64 L.vlan
 |11=>.int .i64 L.num
 |12=>.int .i64 L.cost
 |13=>s1.val
 |14=>s2.val
 |15=>s3.val
 |_=>s4.val
def LBox (w:World) (q:Nat) (L:LV) (s1 s2 s3 s4:SlV):Prop:=
 BoxF w q 17 (lc L s1 s2 s3 s4)∧FSl w q .i64 s1 L.tagged∧FSl w q .i64 s2 L.imports∧FSl w q .i64 s3 L.exports∧FSl w q .u32 s4 L.addrs
section
variable {w w':World} {q:Nat} {L:LV} {s1 s2 s3 s4:SlV}
theorem LBox.lt (h:LBox w q L s1 s2 s3 s4):q<w.heap.size:=h.1.lt (by omega)
theorem LBox.below (h:LBox w q L s1 s2 s3 s4) (b:Below w.heap.size w w'):LBox w' q L s1 s2 s3 s4:=⟨h.1.below (by omega) b,h.2.1.below b,h.2.2.1.below b,h.2.2.2.1.below b,h.2.2.2.2.below b⟩
theorem LBox.alloc (h:LBox w q L s1 s2 s3 s4) (o:Obj):LBox (w.alloc o) q L s1 s2 s3 s4:=h.below ((Below.refl _ _).alloc (Nat.le_refl _) o)
theorem LBox.drewN (h:LBox w q L s1 s2 s3 s4) (m:Nat):LBox (w.drewN m) q L s1 s2 s3 s4:=h
theorem LBox.frozen (h:LBox w q L s1 s2 s3 s4):∀o,w.frozen? ⟨q,o,none⟩=false:=h.1.2
theorem LBox.cells (h:LBox w q L s1 s2 s3 s4):w.cell? ⟨q,0,none⟩=some (.int .i64 L.row)∧w.cell? ⟨q,1,none⟩=some (.int .i64 L.kind)∧w.cell? ⟨q,2,none⟩=some (.string (str L.dev))∧w.cell? ⟨q,3,none⟩=some (.string (str L.port))∧w.cell? ⟨q,4,none⟩=some (.string (str L.peer))∧w.cell? ⟨q,5,none⟩=some (.string (str L.far))∧w.cell? ⟨q,6,none⟩=some (.string (str L.name))∧w.cell? ⟨q,7,none⟩=some (.int .u64 L.mac)∧w.cell? ⟨q,8,none⟩=some (.int .u32 L.addr)∧w.cell? ⟨q,9,none⟩=some (.int .i64 L.bits)∧w.cell? ⟨q,10,none⟩=some (.int .i64 L.vlan)∧w.cell? ⟨q,11,none⟩=some (.int .i64 L.num)∧w.cell? ⟨q,12,none⟩=some (.int .i64 L.cost)∧w.cell? ⟨q,13,none⟩=some (.slice s1.A s1.n s1.c)∧w.cell? ⟨q,14,none⟩=some (.slice s2.A s2.n s2.c)∧w.cell? ⟨q,15,none⟩=some (.slice s3.A s3.n s3.c)∧w.cell? ⟨q,16,none⟩=some (.slice s4.A s4.n s4.c):=⟨h.1.cell 0 (by omega),h.1.cell 1 (by omega),h.1.cell 2 (by omega),h.1.cell 3 (by omega),h.1.cell 4 (by omega),h.1.cell 5 (by omega),h.1.cell 6 (by omega),h.1.cell 7 (by omega),h.1.cell 8 (by omega),h.1.cell 9 (by omega),h.1.cell 10 (by omega),h.1.cell 11 (by omega),h.1.cell 12 (by omega),h.1.cell 13 (by omega),h.1.cell 14 (by omega),h.1.cell 15 (by omega),h.1.cell 16 (by omega)⟩
theorem LBox.set_dev (h:LBox w q L s1 s2 s3 s4) (x:List UInt8):LBox (w.setCell ⟨q,2,none⟩ (.string (str x))) q {L with dev:=x} s1 s2 s3 s4:=
 ⟨(h.1.set 2 (by omega) _).is (fun i hi=>match i,hi with|0,_|1,_|2,_|3,_|4,_|5,_|6,_|7,_|8,_|9,_|10,_|11,_|12,_|13,_|14,_|15,_|16,_=>rfl|i+17,h=>absurd h (by omega)),h.2.1.set _ _,h.2.2.1.set _ _,h.2.2.2.1.set _ _,h.2.2.2.2.set _ _⟩
theorem LBox.set_port (h:LBox w q L s1 s2 s3 s4) (x:List UInt8):LBox (w.setCell ⟨q,3,none⟩ (.string (str x))) q {L with port:=x} s1 s2 s3 s4:=
 ⟨(h.1.set 3 (by omega) _).is (fun i hi=>match i,hi with|0,_|1,_|2,_|3,_|4,_|5,_|6,_|7,_|8,_|9,_|10,_|11,_|12,_|13,_|14,_|15,_|16,_=>rfl|i+17,h=>absurd h (by omega)),h.2.1.set _ _,h.2.2.1.set _ _,h.2.2.2.1.set _ _,h.2.2.2.2.set _ _⟩
theorem LBox.set_peer (h:LBox w q L s1 s2 s3 s4) (x:List UInt8):LBox (w.setCell ⟨q,4,none⟩ (.string (str x))) q {L with peer:=x} s1 s2 s3 s4:=
 ⟨(h.1.set 4 (by omega) _).is (fun i hi=>match i,hi with|0,_|1,_|2,_|3,_|4,_|5,_|6,_|7,_|8,_|9,_|10,_|11,_|12,_|13,_|14,_|15,_|16,_=>rfl|i+17,h=>absurd h (by omega)),h.2.1.set _ _,h.2.2.1.set _ _,h.2.2.2.1.set _ _,h.2.2.2.2.set _ _⟩
theorem LBox.set_far (h:LBox w q L s1 s2 s3 s4) (x:List UInt8):LBox (w.setCell ⟨q,5,none⟩ (.string (str x))) q {L with far:=x} s1 s2 s3 s4:=
 ⟨(h.1.set 5 (by omega) _).is (fun i hi=>match i,hi with|0,_|1,_|2,_|3,_|4,_|5,_|6,_|7,_|8,_|9,_|10,_|11,_|12,_|13,_|14,_|15,_|16,_=>rfl|i+17,h=>absurd h (by omega)),h.2.1.set _ _,h.2.2.1.set _ _,h.2.2.2.1.set _ _,h.2.2.2.2.set _ _⟩
theorem LBox.set_name (h:LBox w q L s1 s2 s3 s4) (x:List UInt8):LBox (w.setCell ⟨q,6,none⟩ (.string (str x))) q {L with name:=x} s1 s2 s3 s4:=
 ⟨(h.1.set 6 (by omega) _).is (fun i hi=>match i,hi with|0,_|1,_|2,_|3,_|4,_|5,_|6,_|7,_|8,_|9,_|10,_|11,_|12,_|13,_|14,_|15,_|16,_=>rfl|i+17,h=>absurd h (by omega)),h.2.1.set _ _,h.2.2.1.set _ _,h.2.2.2.1.set _ _,h.2.2.2.2.set _ _⟩
theorem LBox.set_mac (h:LBox w q L s1 s2 s3 s4) (x:Int):LBox (w.setCell ⟨q,7,none⟩ (.int .u64 x)) q {L with mac:=x} s1 s2 s3 s4:=
 ⟨(h.1.set 7 (by omega) _).is (fun i hi=>match i,hi with|0,_|1,_|2,_|3,_|4,_|5,_|6,_|7,_|8,_|9,_|10,_|11,_|12,_|13,_|14,_|15,_|16,_=>rfl|i+17,h=>absurd h (by omega)),h.2.1.set _ _,h.2.2.1.set _ _,h.2.2.2.1.set _ _,h.2.2.2.2.set _ _⟩
theorem LBox.set_addr (h:LBox w q L s1 s2 s3 s4) (x:Int):LBox (w.setCell ⟨q,8,none⟩ (.int .u32 x)) q {L with addr:=x} s1 s2 s3 s4:=
 ⟨(h.1.set 8 (by omega) _).is (fun i hi=>match i,hi with|0,_|1,_|2,_|3,_|4,_|5,_|6,_|7,_|8,_|9,_|10,_|11,_|12,_|13,_|14,_|15,_|16,_=>rfl|i+17,h=>absurd h (by omega)),h.2.1.set _ _,h.2.2.1.set _ _,h.2.2.2.1.set _ _,h.2.2.2.2.set _ _⟩
theorem LBox.set_bits (h:LBox w q L s1 s2 s3 s4) (x:Int):LBox (w.setCell ⟨q,9,none⟩ (.int .i64 x)) q {L with bits:=x} s1 s2 s3 s4:=
 ⟨(h.1.set 9 (by omega) _).is (fun i hi=>match i,hi with|0,_|1,_|2,_|3,_|4,_|5,_|6,_|7,_|8,_|9,_|10,_|11,_|12,_|13,_|14,_|15,_|16,_=>rfl|i+17,h=>absurd h (by omega)),h.2.1.set _ _,h.2.2.1.set _ _,h.2.2.2.1.set _ _,h.2.2.2.2.set _ _⟩
theorem LBox.set_vlan (h:LBox w q L s1 s2 s3 s4) (x:Int):LBox (w.setCell ⟨q,10,none⟩ (.int .i64 x)) q {L with vlan:=x} s1 s2 s3 s4:=
 ⟨(h.1.set 10 (by omega) _).is (fun i hi=>match i,hi with|0,_|1,_|2,_|3,_|4,_|5,_|6,_|7,_|8,_|9,_|10,_|11,_|12,_|13,_|14,_|15,_|16,_=>rfl|i+17,h=>absurd h (by omega)),h.2.1.set _ _,h.2.2.1.set _ _,h.2.2.2.1.set _ _,h.2.2.2.2.set _ _⟩
theorem LBox.set_num (h:LBox w q L s1 s2 s3 s4) (x:Int):LBox (w.setCell ⟨q,11,none⟩ (.int .i64 x)) q {L with num:=x} s1 s2 s3 s4:=
 ⟨(h.1.set 11 (by omega) _).is (fun i hi=>match i,hi with|0,_|1,_|2,_|3,_|4,_|5,_|6,_|7,_|8,_|9,_|10,_|11,_|12,_|13,_|14,_|15,_|16,_=>rfl|i+17,h=>absurd h (by omega)),h.2.1.set _ _,h.2.2.1.set _ _,h.2.2.2.1.set _ _,h.2.2.2.2.set _ _⟩
theorem LBox.set_cost (h:LBox w q L s1 s2 s3 s4) (x:Int):LBox (w.setCell ⟨q,12,none⟩ (.int .i64 x)) q {L with cost:=x} s1 s2 s3 s4:=
 ⟨(h.1.set 12 (by omega) _).is (fun i hi=>match i,hi with|0,_|1,_|2,_|3,_|4,_|5,_|6,_|7,_|8,_|9,_|10,_|11,_|12,_|13,_|14,_|15,_|16,_=>rfl|i+17,h=>absurd h (by omega)),h.2.1.set _ _,h.2.2.1.set _ _,h.2.2.2.1.set _ _,h.2.2.2.2.set _ _⟩
theorem LBox.set_tagged (h:LBox w q L s1 s2 s3 s4) (t:SlV) (xs:List Int) (ht:FSl w q .i64 t xs):LBox (w.setCell ⟨q,13,none⟩ (.slice t.A t.n t.c)) q {L with tagged:=xs} t s2 s3 s4:=
 ⟨(h.1.set 13 (by omega) _).is (fun i hi=>match i,hi with|0,_|1,_|2,_|3,_|4,_|5,_|6,_|7,_|8,_|9,_|10,_|11,_|12,_|13,_|14,_|15,_|16,_=>rfl|i+17,h=>absurd h (by omega)),ht.set _ _,h.2.2.1.set _ _,h.2.2.2.1.set _ _,h.2.2.2.2.set _ _⟩
theorem LBox.set_imports (h:LBox w q L s1 s2 s3 s4) (t:SlV) (xs:List Int) (ht:FSl w q .i64 t xs):LBox (w.setCell ⟨q,14,none⟩ (.slice t.A t.n t.c)) q {L with imports:=xs} s1 t s3 s4:=
 ⟨(h.1.set 14 (by omega) _).is (fun i hi=>match i,hi with|0,_|1,_|2,_|3,_|4,_|5,_|6,_|7,_|8,_|9,_|10,_|11,_|12,_|13,_|14,_|15,_|16,_=>rfl|i+17,h=>absurd h (by omega)),h.2.1.set _ _,ht.set _ _,h.2.2.2.1.set _ _,h.2.2.2.2.set _ _⟩
theorem LBox.set_exports (h:LBox w q L s1 s2 s3 s4) (t:SlV) (xs:List Int) (ht:FSl w q .i64 t xs):LBox (w.setCell ⟨q,15,none⟩ (.slice t.A t.n t.c)) q {L with exports:=xs} s1 s2 t s4:=
 ⟨(h.1.set 15 (by omega) _).is (fun i hi=>match i,hi with|0,_|1,_|2,_|3,_|4,_|5,_|6,_|7,_|8,_|9,_|10,_|11,_|12,_|13,_|14,_|15,_|16,_=>rfl|i+17,h=>absurd h (by omega)),h.2.1.set _ _,h.2.2.1.set _ _,ht.set _ _,h.2.2.2.2.set _ _⟩
theorem LBox.set_addrs (h:LBox w q L s1 s2 s3 s4) (t:SlV) (xs:List Int) (ht:FSl w q .u32 t xs):LBox (w.setCell ⟨q,16,none⟩ (.slice t.A t.n t.c)) q {L with addrs:=xs} s1 s2 s3 t:=
 ⟨(h.1.set 16 (by omega) _).is (fun i hi=>match i,hi with|0,_|1,_|2,_|3,_|4,_|5,_|6,_|7,_|8,_|9,_|10,_|11,_|12,_|13,_|14,_|15,_|16,_=>rfl|i+17,h=>absurd h (by omega)),h.2.1.set _ _,h.2.2.1.set _ _,h.2.2.2.1.set _ _,ht.set _ _⟩
end
abbrev lA (L:LV) (s1 s2 s3 s4:SlV):Array Value:=#[.int .i64 L.row,.int .i64 L.kind,.string (str L.dev),.string (str L.port),.string (str L.peer),.string (str L.far),.string (str L.name),.int .u64 L.mac,.int .u32 L.addr,.int .i64 L.bits,.int .i64 L.vlan,.int .i64 L.num,.int .i64 L.cost,.slice s1.A s1.n s1.c,.slice s2.A s2.n s2.c,.slice s3.A s3.n s3.c,.slice s4.A s4.n s4.c]
def vAw (L:LV) (s1 s2 s3 s4:SlV):Value:=.agg #[.int .i64 L.row,.int .i64 L.kind,.string (str L.dev),.string (str L.port),.string (str L.peer),.string (str L.far),.string (str L.name),.int .u64 L.mac,.int .u32 L.addr,.int .i64 L.bits,.int .i64 L.vlan,.int .i64 L.num,.int .i64 L.cost,.slice s1.A s1.n s1.c,.slice s2.A s2.n s2.c,.slice s3.A s3.n s3.c,.slice s4.A s4.n s4.c]
def LRead (w:World) (L:LV) (s1 s2 s3 s4:SlV):Prop:=ISl w .i64 s1.A s1.n s1.c L.tagged∧ISl w .i64 s2.A s2.n s2.c L.imports∧ISl w .i64 s3.A s3.n s3.c L.exports∧ISl w .u32 s4.A s4.n s4.c L.addrs
def LV.zero:LV:=⟨0,0,[],[],[],[],[],0,0,0,0,0,0,[],[],[],[]⟩
theorem LRead.zero {w:World}:LRead w LV.zero SlV.nil SlV.nil SlV.nil SlV.nil:=⟨ISl.nil,ISl.nil,ISl.nil,ISl.nil⟩
theorem LBox.read {w:World} {q:Nat} {L:LV} {s1 s2 s3 s4:SlV} (h:LBox w q L s1 s2 s3 s4):LRead w L s1 s2 s3 s4:=⟨h.2.1.1,h.2.2.1.1,h.2.2.2.1.1,h.2.2.2.2.1⟩
theorem Ex.cells {q:Nat}:∀(vs:List Value) (o:Nat) (w w':World),Ex q w w'→Ex q w (w'.setCells q o vs)
 | [],_,_,_,h=>h
 |v :: r,o,w,_,h=>Ex.cells r (o+1) w _ (h.set o v)
theorem there_all {w:World} {q n:Nat} (hc:∀j,j<n→(w.cell? ⟨q,j,none⟩).isSome=true) (hf:∀o,w.frozen? ⟨q,o,none⟩=false):w.there q 0 n:=fun j hj=>by
 rw [Nat.zero_add];exact ⟨hc j hj,hf j⟩
theorem wpList_put {P:Program} {ops:Array Oper} {rest:List Oper} {op:Oper} {a:Act} {w:World} {Q:Exit→Act→World→Prop} (hgd:op.guard=none) (ty:TypeId) (x y:Operand) (ho:op.op=.store ty x y)
 (p:Nat) (hx:a.eval x=.pointer (some ⟨p,0,none⟩)) (cells:Array Value) (hy:a.eval y=.agg cells) (hc:∀j,j<cells.size→(w.cell? ⟨p,j,none⟩).isSome=true) (hf:∀o,w.frozen? ⟨p,o,none⟩=false)
 (hi:(P.info? ty).map (·.size)=some cells.size) (h1:cells.all (·.oneCell')=true)
 (h:∀w9,(∀(j:Nat) (v:Value),cells.toList[j]?=some v→w9.cell? ⟨p,j,none⟩=some v)→(∀o,w9.frozen? ⟨p,o,none⟩=false)→Ex p w w9→wpList P ops Q rest (a.put op.dst undef) w9):wpList P ops Q (op :: rest) a w:=by
 have ht:w.there p 0 cells.size:=there_all hc hf;refine wpList_store_mid hgd ty x y ho p 0 cells hx hy ht hi h1 (h _ (fun j v hv=>?_) (fun o=>by rw [World.frozen?_setCells];exact hf o) (Ex.cells _ 0 w w (Ex.refl _ _)))
 have:=World.rangeAt_setCells_same w p 0 cells.toList (by simpa using ht) j v hv
 rwa [Nat.zero_add] at this
theorem vHe:(Tryz.prog.info? 37).map (·.size)=some 17:=by kernel_rfl
theorem line_desc:∃d,Tryz.prog.underlying 37=some d∧d.isRow=true:=⟨_,Tryz.underlying37,rfl⟩
theorem BoxF.ex {w w':World} {q p n:Nat} {f:Nat→Value} (h:BoxF w p n f) (hn:0<n) (g:Ex q w w') (hp:p≠q):BoxF w' p n f:=
 h.same (fun o=>g.cell o (h.lt hn) hp) (fun o=>g.frozen o (h.lt hn) hp)
theorem LBox.ex {w w':World} {q p:Nat} {L:LV} {s1 s2 s3 s4:SlV} (h:LBox w q L s1 s2 s3 s4) (g:Ex p w w') (hp:p<q):LBox w' q L s1 s2 s3 s4:=by
 have key:∀(k:IntKind) (s:SlV) (xs:List Int),FSl w q k s xs→FSl w' q k s xs:=fun k s xs f=>⟨((f.mono (Nat.le_of_lt hp)).ex g).1,f.2⟩
 exact ⟨h.1.ex (by omega) g (by omega),key _ _ _ h.2.1,key _ _ _ h.2.2.1,key _ _ _ h.2.2.2.1,key _ _ _ h.2.2.2.2⟩
theorem LRead.ex {w w':World} {q p:Nat} {L:LV} {s1 s2 s3 s4:SlV} (h:LBox w q L s1 s2 s3 s4) (g:Ex p w w') (hp:p<q):LRead w' L s1 s2 s3 s4:=(h.ex g hp).read
theorem line_cells (L:LV) (s1 s2 s3 s4:SlV):∃C:Array Value,vAw L s1 s2 s3 s4=.agg C∧C.size=17:=⟨_,rfl,rfl⟩
theorem lc_list (L:LV) (s1 s2 s3 s4:SlV) (j:Nat) (hj:j<17) (C:Array Value) (hC:vAw L s1 s2 s3 s4=.agg C):C.toList[j]?=some (lc L s1 s2 s3 s4 j):=by
 injection hC with hC
 subst hC
 match j,hj with
 |0,_|1,_|2,_|3,_|4,_|5,_|6,_|7,_|8,_|9,_|10,_|11,_|12,_|13,_|14,_|15,_|16,_=>rfl
 |j+17,h=>exact absurd h (by omega)
theorem vEc {ops:Array Oper} {rest:List Oper} {op:Oper} {a:Act} {w:World} {Q:Exit→Act→World→Prop} (hgd:op.guard=none) (x y:Operand) (ho:op.op=.store 37 x y)
 (p:Nat) (hx:a.eval x=.pointer (some ⟨p,0,none⟩)) (L:LV) (s1 s2 s3 s4:SlV) (hy:a.eval y=vAw L s1 s2 s3 s4) (g:Nat→Value) (hb:BoxF w p 17 g)
 (h:∀w9,BoxF w9 p 17 (lc L s1 s2 s3 s4)→Ex p w w9→wpList Tryz.prog ops Q rest (a.put op.dst undef) w9):wpList Tryz.prog ops Q (op :: rest) a w:=by
 obtain ⟨C,hC⟩:∃C,vAw L s1 s2 s3 s4=.agg C:=⟨_,rfl⟩
 have hs:C.size=17:=by injection hC with hC;subst hC;rfl
 have h1:C.all (·.oneCell')=true:=by injection hC with hC;subst hC;simp [Value.oneCell']
 refine wpList_put hgd 37 x y ho p hx C (hy.trans hC) (fun j hj=>by rw [hb.1 j (by omega)];rfl) hb.2 (by rw [hs];exact vHe) h1 (fun w9 h2 h3 h4=>h w9 ⟨fun j hj=>h2 j _ (lc_list L s1 s2 s3 s4 j hj C hC),h3⟩ h4)
theorem vAf {ops:Array Oper} {rest:List Oper} {op:Oper} {a:Act} {w:World} {Q:Exit→Act→World→Prop} (hgd:Region.wanted op (yielded ops a.tmps)=true) (x:Operand) (ho:op.op=.load 37 x)
 (p:Nat) (hx:a.eval x=.pointer (some ⟨p,0,none⟩)) (L:LV) (s1 s2 s3 s4:SlV) (hb:BoxF w p 17 (lc L s1 s2 s3 s4))
 (h:wpList Tryz.prog ops Q rest (a.put op.dst (vAw L s1 s2 s3 s4)) w):wpList Tryz.prog ops Q (op :: rest) a w:=by
 obtain ⟨d,hd1,hd2⟩:=line_desc;obtain ⟨C,hC,hs⟩:=line_cells L s1 s2 s3 s4;have hl:C.toList.length=17:=Array.length_toList.trans hs;have e:C.toList.toArray=C:=Array.toArray_toList
 have h2:wpList Tryz.prog ops Q rest (a.put op.dst (.agg C.toList.toArray)) w:=by rw [e,←hC];exact h
 refine wpList_step fun K hK=>?_
 rw [if_pos hgd];refine wp_load_mid 37 x ho p 0 hx C.toList d (fun j v hv=>?_) hd1 hd2 (by rw [hl];exact vHe) (hK _ _ h2)
 have hj:j<17:=by rw [←hl];exact (List.getElem?_eq_some_iff.1 hv).1
 rw [lc_list L s1 s2 s3 s4 j hj C hC] at hv;rw [Nat.zero_add,hb.1 j hj,hv]
theorem vBv (w:World) (T:TypeId):BoxF (w.alloc (.cells #[.int .i64 0,.int .i64 0,.string ⟨#[]⟩,.string ⟨#[]⟩,.string ⟨#[]⟩,.string ⟨#[]⟩,.string ⟨#[]⟩,.int .u64 0,.int .u32 0,.int .i64 0,.int .i64 0,.int .i64 0,.int .i64 0,.slice none 0 0,.slice none 0 0,.slice none 0 0,.slice none 0 0] T)) w.heap.size 17 (lc LV.zero SlV.nil SlV.nil SlV.nil SlV.nil):=by
 refine ⟨fun j hj=>?_,fun o=>by simp⟩
 match j,hj with
 |0,_|1,_|2,_|3,_|4,_|5,_|6,_|7,_|8,_|9,_|10,_|11,_|12,_|13,_|14,_|15,_|16,_=>simp [lc,LV.zero,SlV.nil,SlV.val,str]
 |j+17,h=>exact absurd h (by omega)
theorem alloc_line (ρ:Operand→Value) (o:Oper) (ho:o.op=.alloc 37) (w:World):
 (execOp ρ o).run Tryz.prog w=.ok (.value (.pointer (some ⟨w.heap.size,0,none⟩))) (w.alloc (.cells #[.int .i64 0,.int .i64 0,.string ⟨#[]⟩,.string ⟨#[]⟩,.string ⟨#[]⟩,.string ⟨#[]⟩,.string ⟨#[]⟩,.int .u64 0,.int .u32 0,.int .i64 0,.int .i64 0,.int .i64 0,.int .i64 0,.slice none 0 0,.slice none 0 0,.slice none 0 0,.slice none 0 0] 37)):=by
 unfold execOp;rw [ho];simp [Instr.alloc,newVar,newRow,go_sem]
end Go.Proofs.YtgnkpbgaoiaefaaGreat
