import Derived.Test.YtgmflecelnefcaaGreatOp34
import Derived.Test.YtgmflecelnefcaaGreatOp36
import Derived.Test.YtgmflecelnefcaaGreatOp25
import Derived.Test.YtgmflecelnefcaaGreatOp11
import Derived.Test.YtgmflecelnefcaaGreatOp17
set_option maxRecDepth 100000
set_option maxHeartbeats 40000000
namespace Go.Proofs.YtgmflecelnefcaaGreat
open Go.Lib (hid)
open Go.RowKit
theorem NOwn.far {w w':World} {B q:Nat} {F:Nat→Prop} {N:NV} {S:NSl3} (h:NOwn w B F N S) (hs:w.heap.size≤w'.heap.size) (hc:∀b,b≠q→w'.heap[b]?=w.heap[b]?) (hq:q<B) (hF:¬F q):NOwn w' B F N S:=by
 have key:∀{α:Type} {R:Rdr α} {T:TypeId} {s:Sl3} {xs:List α},RI R w B F T s xs→RI R w' B F T s xs:=fun g=>
  g.keep hs (fun b cur hB _=>hc b (by omega)) (fun b hb=>hc b (fun e=>by
    subst e
    rcases hb.2 with g|g
    · exact hF g
    · have:=g.1;omega))
 exact ⟨key h.dv,key h.pt,key h.lk,key h.dm,key h.st,key h.fl,key h.vr,key h.ir⟩
theorem NOwn.vput {w:World} {B:Nat} {F:Nat→Prop} {N:NV} {S:NSl3} (h:NOwn w B F N S) (hF:∀b,F b→b<B) (k:Nat) (hk:k<N.devices.length) (g:Nat) (hg:S.dv.A=some ⟨g,0,none⟩) (a:Int):
 NOwn (w.setCell ⟨g,k * 5+4,none⟩ (.int .u32 a)) B F (vFy N k a) S∧ChgT B 58 w (w.setCell ⟨g,k * 5+4,none⟩ (.int .u32 a))∧B≤g:=by
 obtain ⟨h1,hc⟩:=h.dv.put (d:=DevV.zero) vEr hF k hk 4 (by decide) (.int .u32 a) {N.devices.getD k DevV.zero with vtep:=a} g hg (fun us hu=>by
  have hu:us=vGt (N.devices.getD k DevV.zero):=hu;subst hu
  rfl)
 obtain ⟨g2,cur,hg2,hB,_⟩:=h.dv.row (by omega)
 have eg:g2=g:=by rw [hg] at hg2;injection hg2 with e;injection e with e _;exact e.symm
 rw [eg] at hB;exact ⟨h.setDv hc hF h1,hc,hB⟩
theorem NOwn.vcell {w:World} {B:Nat} {F:Nat→Prop} {N:NV} {S:NSl3} (h:NOwn w B F N S) (hn:0<N.devices.length):∃g,S.dv.A=some ⟨g,0,none⟩∧B≤g∧g<w.heap.size∧(∀o,w.frozen? ⟨g,o,none⟩=false)∧∀k,k<N.devices.length→∃v,w.cell? ⟨g,k * 5+4,none⟩=some v:=by
 obtain ⟨g,cur,hg,hB,hh⟩:=h.dv.row hn
 have tb:TBx w g 58 cur.toList:=by unfold TBx;rw [hh]
 refine ⟨g,hg,hB,tb.lt,fun o=>tb.live o,fun k hk=>?_⟩;obtain ⟨us,hu,hr⟩:=h.dv.at_ g hg k hk DevV.zero;have hu:us=vGt (N.devices.getD k DevV.zero):=hu;subst hu;exact ⟨_,hr 4 _ rfl⟩
theorem NOwn.nput {w:World} {B:Nat} {F:Nat→Prop} {N:NV} {S:NSl3} (h:NOwn w B F N S) (hF:∀b,F b→b<B) (k:Nat) (hk:k<N.domains.length) (g:Nat) (hg:S.dm.A=some ⟨g,0,none⟩) (v:Int):
 NOwn (w.setCell ⟨g,k * 6+2,none⟩ (.int .i64 v)) B F {N with domains:=N.domains.set k {N.domains.getD k DomV.zero with vni:=v}} S∧ChgT B 54 w (w.setCell ⟨g,k * 6+2,none⟩ (.int .i64 v))∧B≤g:=by
 obtain ⟨h1,hc⟩:=h.dm.put (d:=DomV.zero) vDh hF k hk 2 (by decide) (.int .i64 v) {N.domains.getD k DomV.zero with vni:=v} g hg (fun us hu=>by
  obtain ⟨s,rfl,l⟩:=hu
  exact ⟨s,rfl,l⟩)
 obtain ⟨g2,cur,hg2,hB,_⟩:=h.dm.row (by omega)
 have eg:g2=g:=by rw [hg] at hg2;injection hg2 with e;injection e with e _;exact e.symm
 rw [eg] at hB;exact ⟨h.setDm hc hF h1,hc,hB⟩
theorem NOwn.rput {w:World} {B:Nat} {F:Nat→Prop} {N:NV} {S:NSl3} (h:NOwn w B F N S) (hF:∀b,F b→b<B) (k:Nat) (hk:k<N.domains.length) (g:Nat) (hg:S.dm.A=some ⟨g,0,none⟩) (v:Int):
 NOwn (w.setCell ⟨g,k * 6+4,none⟩ (.int .i64 v)) B F {N with domains:=N.domains.set k {N.domains.getD k DomV.zero with row:=v}} S∧ChgT B 54 w (w.setCell ⟨g,k * 6+4,none⟩ (.int .i64 v))∧B≤g:=by
 obtain ⟨h1,hc⟩:=h.dm.put (d:=DomV.zero) vDh hF k hk 4 (by decide) (.int .i64 v) {N.domains.getD k DomV.zero with row:=v} g hg (fun us hu=>by
  obtain ⟨s,rfl,l⟩:=hu
  exact ⟨s,rfl,l⟩)
 obtain ⟨g2,cur,hg2,hB,_⟩:=h.dm.row (by omega)
 have eg:g2=g:=by rw [hg] at hg2;injection hg2 with e;injection e with e _;exact e.symm
 rw [eg] at hB;exact ⟨h.setDm hc hF h1,hc,hB⟩
theorem set_set {N:NV} {k:Nat} (hk:k<N.domains.length) (v row:Int):(({N with domains:=N.domains.set k {N.domains.getD k DomV.zero with vni:=v}}:NV).domains.set k {({N with domains:=N.domains.set k {N.domains.getD k DomV.zero with vni:=v}}:NV).domains.getD k DomV.zero with row:=row})=N.domains.set k {N.domains.getD k DomV.zero with vni:=v,row:=row}:=by
 show ((N.domains.set k _).set k {(N.domains.set k _).getD k DomV.zero with row:=row})=_
 rw [setD_at hk,List.set_set]
theorem NOwn.ncell {w:World} {B:Nat} {F:Nat→Prop} {N:NV} {S:NSl3} (h:NOwn w B F N S) (hn:0<N.domains.length):∃g,S.dm.A=some ⟨g,0,none⟩∧B≤g∧g<w.heap.size∧(∀o,w.frozen? ⟨g,o,none⟩=false)∧∀k,k<N.domains.length→(∃v,w.cell? ⟨g,k * 6+2,none⟩=some v)∧∃v,w.cell? ⟨g,k * 6+4,none⟩=some v:=by
 obtain ⟨g,cur,hg,hB,hh⟩:=h.dm.row hn
 have tb:TBx w g 54 cur.toList:=by unfold TBx;rw [hh]
 refine ⟨g,hg,hB,tb.lt,fun o=>tb.live o,fun k hk=>?_⟩;obtain ⟨us,⟨s,rfl,_⟩,hr⟩:=h.dm.at_ g hg k hk DomV.zero;exact ⟨⟨_,hr 2 _ rfl⟩,⟨_,hr 4 _ rfl⟩⟩
theorem dvK_at {xs:List DevV} {k:Nat} (h:k<xs.length) (l:List UInt8):dvK (xs.drop k) l k=if (xs.getD k DevV.zero).name=l then (k:Int) else dvK (xs.drop (k+1)) l (k+1):=by
 rw [List.drop_eq_getElem_cons h,dvK];simp [List.getD,h]
theorem rdevice_any (N:NV) (S:NSl3) (l:List UInt8) (w:World) (h:NRead w (vAp w) N S):Calls Tryz.prog 91 #[vAm S,.string (str l)] w fun e w'=>e=.returned (.int .i64 (dvF N l))∧Below w.heap.size w w':=by
 have H:=hid h.dv;have hle:=h.dv.le;have hcap:=h.dv.cap;have HL:=hid h.dv.len;have E:=hid (show dvF N l=dvK (N.devices.drop 0) l 0 from rfl);generalize dvF N l=V at *;have NB:=hid (NBox.new w S 31);clear h;unfold vAm
 go_enter Tryz.func91,Tryz.ntmps91
 go_wp2;obtain ⟨w1,hw1⟩:∃w1,w.alloc (.cells (nA S) 31)=w1:=⟨_,rfl⟩;have B1:=hid (show Below w.heap.size w w1 by rw [←hw1];exact (Below.refl _ _).alloc (Nat.le_refl _) _);rw [hw1] at NB ⊢;clear hw1;have c3:=NB.out.c0
 go_loopw [5] (fun i wr=>∃k:Nat,i=.int .i64 k∧k≤S.dv.n∧wr=w1∧V=dvK (N.devices.drop k) l k) (fun i _=>match i with| .int _ y=>(S.dv.n - y).toNat|_=>0)
 case atStart=>exact ⟨0,rfl,by omega,rfl,E.out⟩
 case round=>
  obtain ⟨k,rfl,hk,hwr,hv⟩:=hrel;subst hwr;have HV:=hid hv;clear hv
  by_cases hlt:k<S.dv.n
  · obtain ⟨b0,o0,vs,e0,_,hb0,hvs,r0⟩:=vAi H.out k hlt DevV.zero
    have hvs:vs=vGt (N.devices.getD k DevV.zero):=hvs;subst hvs
    have hk2:k<N.devices.length:=by rw [HL.out];exact hlt
    have AT:=hid (dvK_at hk2 l);generalize N.devices.getD k DevV.zero=D at *;have R1:=vAb r0 (B1.out.block b0 hb0);have d2:=R1 2 _ rfl;rw [show o0+k * devR.n=o0+k * 5 from rfl] at d2
    have lt2:(k:Int)<(S.dv.n:Int):=by omega
    rw [e0] at c3 ⊢;clear r0 R1 hk2
    by_cases hn:D.name=l
    · have x1:(D.name == l)=true:=by simpa using hn
      have EV:=hid (show V=(k:Int) by rw [HV.out,AT.out,if_pos hn]);clear hn;go_wp2;go_ret;exact ⟨by rw [EV.out];rfl,B1.out⟩
    · have x1:(D.name == l)=false:=by simpa using hn
      have EV:=hid (show V=dvK (N.devices.drop (k+1)) l (k+1) by rw [HV.out,AT.out,if_neg (by intro g;exact hn g)]);clear hn;go_wp2
      go_roundw
      case rel=>exact ⟨k+1,by simp,by omega,(by first|rfl|trivial),EV.out⟩
      case measure=>simp only [];omega
  · have lt2:¬(k:Int)<(S.dv.n:Int):=by omega
    have EV:=hid (show V= -1 by rw [HV.out,List.drop_of_length_le (by rw [HL.out];omega)];rfl);go_wp2;go_ret;exact ⟨by rw [EV.out];rfl,B1.out⟩
end Go.Proofs.YtgmflecelnefcaaGreat
