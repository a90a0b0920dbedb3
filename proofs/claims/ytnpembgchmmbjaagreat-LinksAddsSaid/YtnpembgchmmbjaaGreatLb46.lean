import Derived.Test.YtnpembgchmmbjaaGreatLb44
import Derived.Test.YtnpembgchmmbjaaGreatLb45
import Derived.Test.YtnpembgchmmbjaaGreatLb20
import Derived.Test.YtnpembgchmmbjaaGreatLb14
import Derived.Test.YtnpembgchmmbjaaGreatLb39
import Derived.Test.YtnpembgchmmbjaaGreatLb34
import Derived.Test.YtnpembgchmmbjaaGreatLb04
import Derived.Test.YtnpembgchmmbjaaGreatLb32
import Derived.Test.YtnpembgchmmbjaaGreatLb01
import Derived.Test.YtnpembgchmmbjaaGreatLb40
import Derived.Lib.SlKept
import Derived.Lib.SliceRun
import Derived.Shelf.RegionOpenPlain
set_option maxRecDepth 100000
set_option maxHeartbeats 40000000
namespace Go.Proofs.YtnpembgchmmbjaaGreat
open Go.RowKit
def GotPut (N:NV) (E:Int) (w:World) (e:Ending) (w':World):Prop:=∃U,e=.returned (.tuple #[vAy U,.int .i64 E])∧NRead w' (vAw w') N U∧Below w.heap.size w w'
theorem NOwn.far {w w':World} {B q:Nat} {F:Nat→Prop} {N:NV} {S:NSl3} (h:NOwn w B F N S) (hs:w.heap.size≤w'.heap.size) (hc:∀b,b≠q→w'.heap[b]?=w.heap[b]?) (hq:q<B) (hF:¬F q):NOwn w' B F N S:=by
 have key:∀{α:Type} {R:Rdr α} {T:TypeId} {s:Sl3} {xs:List α},RI R w B F T s xs→RI R w' B F T s xs:=fun g=>
  g.keep hs (fun b cur hB _=>hc b (by omega)) (fun b hb=>hc b (fun e=>by
    subst e
    rcases hb.2 with g|g
    · exact hF g
    · have:=g.1;omega))
 exact ⟨key h.dv,key h.pt,key h.lk,key h.dm,key h.st,key h.fl,key h.vr,key h.ir⟩
theorem dvK_at {xs:List DevV} {k:Nat} (h:k<xs.length) (l:List UInt8):dvK (xs.drop k) l k=if (xs.getD k DevV.zero).name=l then (k:Int) else dvK (xs.drop (k+1)) l (k+1):=by
 rw [List.drop_eq_getElem_cons h,dvK];simp [List.getD,h]
theorem ptK_at {xs:List PortV} {k:Nat} (h:k<xs.length) (dev:Int) (l:List UInt8):ptK (xs.drop k) dev l k=if (xs.getD k PortV.zero).dev=dev∧(xs.getD k PortV.zero).name=l then (k:Int) else ptK (xs.drop (k+1)) dev l (k+1):=by
 rw [List.drop_eq_getElem_cons h,ptK];simp [List.getD,h]
theorem rdevice_any (N:NV) (S:NSl3) (l:List UInt8) (w:World) (h:NRead w (vAw w) N S):Calls Tryz.prog 89 #[vAy S,.string (str l)] w fun e w'=>e=.returned (.int .i64 (dvF N l))∧Below w.heap.size w w':=by
 have H:=Lib.hid h.dv;have hle:=h.dv.le;have hcap:=h.dv.cap;have HL:=Lib.hid h.dv.len;have E:=Lib.hid (show dvF N l=dvK (N.devices.drop 0) l 0 from rfl);generalize dvF N l=V at *;have NB:=Lib.hid (NBox.new w S 31);clear h;unfold vAy
 go_enter Tryz.func89,Tryz.ntmps89
 go_wp2;obtain ⟨w1,hw1⟩:∃w1,w.alloc (.cells (nA S) 31)=w1:=⟨_,rfl⟩;have B1:=Lib.hid (show Below w.heap.size w w1 by rw [←hw1];exact (Below.refl _ _).alloc (Nat.le_refl _) _);rw [hw1] at NB ⊢;clear hw1;have c3:=NB.out.c0
 go_loopw [5] (fun i wr=>∃k:Nat,i=.int .i64 k∧k≤S.dv.n∧wr=w1∧V=dvK (N.devices.drop k) l k) (fun i _=>match i with| .int _ y=>(S.dv.n - y).toNat|_=>0)
 case atStart=>exact ⟨0,rfl,by omega,rfl,E.out⟩
 case round=>
  obtain ⟨k,rfl,hk,hwr,hv⟩:=hrel;subst hwr;have HV:=Lib.hid hv;clear hv
  by_cases hlt:k<S.dv.n
  · obtain ⟨b0,o0,vs,e0,_,hb0,hvs,r0⟩:=vAh H.out k hlt DevV.zero
    have hvs:vs=devC (N.devices.getD k DevV.zero):=hvs;subst hvs
    have hk2:k<N.devices.length:=by rw [HL.out];exact hlt
    have AT:=Lib.hid (dvK_at hk2 l);generalize N.devices.getD k DevV.zero=D at *;have R1:=vAb r0 (B1.out.block b0 hb0);have d2:=R1 2 _ rfl;rw [show o0+k * devR.n=o0+k * 5 from rfl] at d2
    have lt2:(k:Int)<(S.dv.n:Int):=by omega
    rw [e0] at c3 ⊢;clear r0 R1 hk2
    by_cases hn:D.name=l
    · have x1:(D.name == l)=true:=by simpa using hn
      have EV:=Lib.hid (show V=(k:Int) by rw [HV.out,AT.out,if_pos hn]);clear hn;go_wp2;go_ret;exact ⟨by rw [EV.out];rfl,B1.out⟩
    · have x1:(D.name == l)=false:=by simpa using hn
      have EV:=Lib.hid (show V=dvK (N.devices.drop (k+1)) l (k+1) by rw [HV.out,AT.out,if_neg (by intro g;exact hn g)]);clear hn;go_wp2
      go_roundw
      case rel=>exact ⟨k+1,by simp,by omega,(by first|rfl|trivial),EV.out⟩
      case measure=>simp only [];omega
  · have lt2:¬(k:Int)<(S.dv.n:Int):=by omega
    have EV:=Lib.hid (show V= -1 by rw [HV.out,List.drop_of_length_le (by rw [HL.out];omega)];rfl);go_wp2;go_ret;exact ⟨by rw [EV.out];rfl,B1.out⟩
theorem rport_any (N:NV) (S:NSl3) (dev:Int) (l:List UInt8) (w:World) (h:NRead w (vAw w) N S):Calls Tryz.prog 90 #[vAy S,.int .i64 dev,.string (str l)] w fun e w'=>e=.returned (.int .i64 (ptF N dev l))∧Below w.heap.size w w':=by
 have H:=Lib.hid h.pt;have hle:=h.pt.le;have hcap:=h.pt.cap;have HL:=Lib.hid h.pt.len;have E:=Lib.hid (show ptF N dev l=ptK (N.ports.drop 0) dev l 0 from rfl);generalize ptF N dev l=V at *;have NB:=Lib.hid (NBox.new w S 31);clear h;unfold vAy
 go_enter Tryz.func90,Tryz.ntmps90
 go_wp2;obtain ⟨w1,hw1⟩:∃w1,w.alloc (.cells (nA S) 31)=w1:=⟨_,rfl⟩;have B1:=Lib.hid (show Below w.heap.size w w1 by rw [←hw1];exact (Below.refl _ _).alloc (Nat.le_refl _) _);rw [hw1] at NB ⊢;clear hw1;have c3:=NB.out.c1
 go_loopw [7] (fun i wr=>∃k:Nat,i=.int .i64 k∧k≤S.pt.n∧wr=w1∧V=ptK (N.ports.drop k) dev l k) (fun i _=>match i with| .int _ y=>(S.pt.n - y).toNat|_=>0)
 case atStart=>exact ⟨0,rfl,by omega,rfl,E.out⟩
 case round=>
  obtain ⟨k,rfl,hk,hwr,hv⟩:=hrel;subst hwr;have HV:=Lib.hid hv;clear hv
  by_cases hlt:k<S.pt.n
  · obtain ⟨b0,o0,vs,e0,_,hb0,⟨s,rfl,_⟩,r0⟩:=vAh H.out k hlt PortV.zero
    have hk2:k<N.ports.length:=by rw [HL.out];exact hlt
    have AT:=Lib.hid (ptK_at hk2 dev l);generalize N.ports.getD k PortV.zero=D at *;have R1:=vAb r0 (B1.out.block b0 hb0);have d1:=R1 1 _ rfl;have d5:=R1 5 _ rfl;rw [show o0+k * portR.n=o0+k * 7 from rfl] at d1 d5
    have lt2:(k:Int)<(S.pt.n:Int):=by omega
    rw [e0] at c3 ⊢;clear r0 R1 hk2
    by_cases hd:D.dev=dev
    · have x1:(D.dev == dev)=true:=by simpa using hd
      by_cases hn:D.name=l
      · have x2:(D.name == l)=true:=by simpa using hn
        have EV:=Lib.hid (show V=(k:Int) by rw [HV.out,AT.out,if_pos ⟨hd,hn⟩]);clear hd hn;go_wp2;go_ret;exact ⟨by rw [EV.out];rfl,B1.out⟩
      · have x2:(D.name == l)=false:=by simpa using hn
        have EV:=Lib.hid (show V=ptK (N.ports.drop (k+1)) dev l (k+1) by rw [HV.out,AT.out,if_neg (by intro g;exact hn g.2)]);clear hn;go_wp2
        go_roundw
        case rel=>exact ⟨k+1,by simp,by omega,(by first|rfl|trivial),EV.out⟩
        case measure=>simp only [];omega
    · have x1:(D.dev == dev)=false:=by simpa using hd
      have EV:=Lib.hid (show V=ptK (N.ports.drop (k+1)) dev l (k+1) by rw [HV.out,AT.out,if_neg (by intro g;exact hd g.1)]);clear hd;go_wp2
      go_roundw
      case rel=>exact ⟨k+1,by simp,by omega,(by first|rfl|trivial),EV.out⟩
      case measure=>simp only [];omega
  · have lt2:¬(k:Int)<(S.pt.n:Int):=by omega
    have EV:=Lib.hid (show V= -1 by rw [HV.out,List.drop_of_length_le (by rw [HL.out];omega)];rfl);go_wp2;go_ret;exact ⟨by rw [EV.out];rfl,B1.out⟩
def GotCo (N:NV) (w:World) (e:Ending) (w':World):Prop:=∃S,e=.returned (vAy S)∧NOwn w' w.heap.size (fun _=>False) N S∧Below w.heap.size w w'
theorem xncopy_co (N:NV) (S:NSl3) (w:World) (h:NRead w (vAw w) N S) (hs:NvSz N) (hm:NmSz N):Calls Tryz.prog 23 #[vAy S] w (GotCo N w):=(xncopy_own N S w h hs hm).mono fun _ _ g=>g.own
theorem NOwn.lput {w:World} {B:Nat} {F:Nat→Prop} {N:NV} {S:NSl3} (h:NOwn w B F N S) (hF:∀b,F b→b<B) (k:Nat) (hk:k<N.ports.length) (g:Nat) (hg:S.pt.A=some ⟨g,0,none⟩) (v:Int):
 NOwn (w.setCell ⟨g,k * 7+4,none⟩ (.int .i64 v)) B F {N with ports:=setL N.ports k v} S∧ChgT B 52 w (w.setCell ⟨g,k * 7+4,none⟩ (.int .i64 v))∧B≤g:=by
 obtain ⟨h1,hc⟩:=h.pt.put (d:=PortV.zero) vDc hF k hk 4 (by decide) (.int .i64 v) {N.ports.getD k PortV.zero with link:=v} g hg (fun us hu=>by
  obtain ⟨s,rfl,l⟩:=hu
  exact ⟨s,rfl,l⟩)
 obtain ⟨g2,cur,hg2,hB,_⟩:=h.pt.row (by omega)
 have eg:g2=g:=by rw [hg] at hg2;injection hg2 with e;injection e with e _;exact e.symm
 rw [eg] at hB;exact ⟨h.setPt hc hF h1,hc,hB⟩
theorem NOwn.lcell {w:World} {B:Nat} {F:Nat→Prop} {N:NV} {S:NSl3} (h:NOwn w B F N S) (hn:0<N.ports.length):∃g,S.pt.A=some ⟨g,0,none⟩∧B≤g∧g<w.heap.size∧(∀o,w.frozen? ⟨g,o,none⟩=false)∧∀k,k<N.ports.length→∃v,w.cell? ⟨g,k * 7+4,none⟩=some v:=by
 obtain ⟨g,cur,hg,hB,hh⟩:=h.pt.row hn
 have tb:TBx w g 52 cur.toList:=by unfold TBx;rw [hh]
 refine ⟨g,hg,hB,tb.lt,fun o=>tb.live o,fun k hk=>?_⟩;obtain ⟨us,⟨s,rfl,_⟩,hr⟩:=h.pt.at_ g hg k hk PortV.zero;exact ⟨_,hr 4 _ rfl⟩
structure LA (w:World) (q B:Nat) (lc:List Value) (a b:Int) (N:NV) (U:NSl3) (wx:World):Prop where
 own:NOwn wx B (fun _=>False) N U
 box:TBx wx w.heap.size 31 (vCs U)
 line:TBx wx (w.heap.size+1) 37 lc
 res:TBx wx (w.heap.size+2) 31 (vCs NSl3.nil)
 sd:TBx wx q 67 [.int .i64 a,.int .i64 b]
 bel:Below w.heap.size w wx
 lo:w.heap.size+2<q∧q<B∧B≤wx.heap.size
theorem LA.lput {w wx:World} {q B:Nat} {lc:List Value} {a b:Int} {N:NV} {U:NSl3} (h:LA w q B lc a b N U wx) (k:Nat) (hk:k<N.ports.length) (g:Nat) (hg:U.pt.A=some ⟨g,0,none⟩) (v:Int):LA w q B lc a b {N with ports:=setL N.ports k v} U (wx.setCell ⟨g,k * 7+4,none⟩ (.int .i64 v)):=by
 obtain ⟨h1,h2,h3⟩:=h.own.lput (fun b hb=>hb.elim) k hk g hg v
 have:=h.lo
 exact ⟨h1,h.box.chg h2 (by decide),h.line.chg h2 (by decide),h.res.chg h2 (by decide),h.sd.chg h2 (by decide),h.bel.setCell (show w.heap.size≤g by omega) _,by simpa using this⟩
theorem LA.grow {w wx w':World} {q B:Nat} {lc:List Value} {a b:Int} {N:NV} {U:NSl3} {u:Sl3} {xs:List LinkV} (h:LA w q B lc a b N U wx) (hr:RI linkR w' B (fun _=>False) 58 u xs) (hc:ChgT B 58 wx w') (hb:Below B wx w'):LA w q B lc a b {N with links:=xs} {U with lk:=u} (w'.setCell ⟨w.heap.size,2,none⟩ (.slice u.A u.n u.c)):=by
 have l:=h.lo;have o:=h.own.setLk hc (fun b hb=>hb.elim) hr
 have hs:(w'.setCell ⟨w.heap.size,2,none⟩ (.slice u.A u.n u.c)).heap.size=w'.heap.size:=by simp
 have far:∀b,b≠w.heap.size→(w'.setCell ⟨w.heap.size,2,none⟩ (.slice u.A u.n u.c)).heap[b]?=w'.heap[b]?:=fun b hn=>Below.heap_setCell _ _ _ _ hn
 refine ⟨o.far (q:=w.heap.size) (by rw [hs];exact Nat.le_refl _) far (by omega) (fun f=>f.elim),(h.box.chg hc (by decide)).set 2 _,(h.line.chg hc (by decide)).same (far _ (by omega)),(h.res.chg hc (by decide)).same (far _ (by omega)),(h.sd.chg hc (by decide)).same (far _ (by omega)),(h.bel.trans (hb.mono (by omega))).setCell (Nat.le_refl _) _,l.1,l.2.1,by rw [hs];exact Nat.le_trans l.2.2 hc.1⟩
end Go.Proofs.YtnpembgchmmbjaaGreat
