import Derived.Test.YtgmflecelnefcaaGreatOp34
import Derived.Test.YtgmflecelnefcaaGreatOp15
import Derived.Test.YtgmflecelnefcaaGreatOp35
import Derived.Deep.CutBlock
import Derived.Deep.DeepCutAuto
set_option maxRecDepth 100000
set_option maxHeartbeats 40000000
namespace Go.Proofs.YtgmflecelnefcaaGreat
open Go.Lib (hid)
open Go.RowKit
structure CpS (F:Nat→Prop) (S:NSl3) (w:World) (N:NV) (U:NSl3) (wr:World):Prop where
 own:NOwn wr w.heap.size F N U
 box:TBx wr (w.heap.size+2) 31 (vBk U)
 res:TBx wr (w.heap.size+1) 31 (vBk NSl3.nil)
 arg:TBx wr w.heap.size 31 (vBk S)
 bel:Below w.heap.size w wr
def GotCopy (F:Nat→Prop) (N:NV) (w:World) (e:Ending) (w':World):Prop:=∃U,e=.returned (vAm U)∧NOwn w' w.heap.size F N U∧Below w.heap.size w w'
theorem TBx.box {w w':World} {q B:Nat} {vs:List Value} {T:TypeId} (h:TBx w q 31 vs) (hc:ChgT B T w w') (hn:31≠T):TBx w' q 31 vs:=h.chg hc hn
theorem cp_start (F:Nat→Prop) (S:NSl3) (w:World):CpS F S w NV.zero NSl3.nil (((w.alloc (.cells (nA S) 31)).alloc (.cells #[.slice none 0 0,.slice none 0 0,.slice none 0 0,.slice none 0 0,.slice none 0 0,.slice none 0 0,.slice none 0 0,.slice none 0 0] 31)).alloc (.cells #[.slice none 0 0,.slice none 0 0,.slice none 0 0,.slice none 0 0,.slice none 0 0,.slice none 0 0,.slice none 0 0,.slice none 0 0] 31)):=by
 have b1:=TBx.new w #[.slice S.dv.A S.dv.n S.dv.c,.slice S.pt.A S.pt.n S.pt.c,.slice S.lk.A S.lk.n S.lk.c,.slice S.dm.A S.dm.n S.dm.c,.slice S.st.A S.st.n S.st.c,.slice S.fl.A S.fl.n S.fl.c,.slice S.vr.A S.vr.n S.vr.c,.slice S.ir.A S.ir.n S.ir.c] 31;have b2:=TBx.new (w.alloc (.cells (nA S) 31)) #[.slice none 0 0,.slice none 0 0,.slice none 0 0,.slice none 0 0,.slice none 0 0,.slice none 0 0,.slice none 0 0,.slice none 0 0] 31
 have b3:=TBx.new ((w.alloc (.cells (nA S) 31)).alloc (.cells #[.slice none 0 0,.slice none 0 0,.slice none 0 0,.slice none 0 0,.slice none 0 0,.slice none 0 0,.slice none 0 0,.slice none 0 0] 31)) #[.slice none 0 0,.slice none 0 0,.slice none 0 0,.slice none 0 0,.slice none 0 0,.slice none 0 0,.slice none 0 0,.slice none 0 0] 31;have a1:Below w.heap.size w (w.alloc (.cells (nA S) 31)):=(Below.refl _ _).alloc (Nat.le_refl _) _
 have a2:∀x:World,Below x.heap.size x (x.alloc (.cells #[.slice none 0 0,.slice none 0 0,.slice none 0 0,.slice none 0 0,.slice none 0 0,.slice none 0 0,.slice none 0 0,.slice none 0 0] 31)):=fun x=>(Below.refl _ _).alloc (Nat.le_refl _) _
 rw [show (w.alloc (.cells (nA S) 31)).heap.size=w.heap.size+1 by simp] at b2;rw [show ((w.alloc (.cells (nA S) 31)).alloc (.cells #[.slice none 0 0,.slice none 0 0,.slice none 0 0,.slice none 0 0,.slice none 0 0,.slice none 0 0,.slice none 0 0,.slice none 0 0] 31)).heap.size=w.heap.size+2 by simp] at b3;exact ⟨⟨RI.nil _ _ _ _,RI.nil _ _ _ _,RI.nil _ _ _ _,RI.nil _ _ _ _,RI.nil _ _ _ _,RI.nil _ _ _ _,RI.nil _ _ _ _,RI.nil _ _ _ _⟩,b3,b2.below (a2 _),(b1.below (a2 _)).below (a2 _),(a1.trans ((a2 _).mono (by simp))).trans ((a2 _).mono (by simp;omega))⟩
theorem res_rcopy (tmps:Array Value) (W:World) (S:NSl3) (q:Nat) (h2:tmps[2]?.getD undef=.pointer (some ⟨q,0,none⟩)) (hb:TBx W q 31 (vBk S)):
 (results Tryz.f27 tmps).run Tryz.prog W=.ok (vAm S) W:=by
 have t0:=hb.cell 0 _ rfl;have t1:=hb.cell 1 _ rfl;have t2:=hb.cell 2 _ rfl;have t3:=hb.cell 3 _ rfl;have t4:=hb.cell 4 _ rfl;have t5:=hb.cell 5 _ rfl;have t6:=hb.cell 6 _ rfl;have t7:=hb.cell 7 _ rfl;clear hb;unfold vAm;simp [results,Tryz.results27,go_sem,h2,t0,t1,t2,t3,t4,t5,t6,t7]
theorem CpS.f0 {F:Nat→Prop} {S:NSl3} {w wr w':World} {N:NV} {U:NSl3} {u:Sl3} {xs:List DevV} (h:CpS F S w N U wr) (hF:∀b,F b→b<w.heap.size) (hr:RI devR w' w.heap.size F 58 u xs) (hc:ChgT w.heap.size 58 wr w') (hb:Below w.heap.size wr w'):CpS F S w {N with devices:=xs} {U with dv:=u} (w'.setCell ⟨w.heap.size+2,0,none⟩ (.slice u.A u.n u.c)):=by
 have q3:=h.box.box hc (by decide);have c3:=q3.chgT (B:=w.heap.size) (by omega) 0 (.slice u.A u.n u.c);exact ⟨(h.own.setDv hc hF hr).box c3 vEi hF,q3.set 0 _,(h.res.box hc (by decide)).same (Below.heap_setCell _ _ _ _ (by simp)),(h.arg.box hc (by decide)).same (Below.heap_setCell _ _ _ _ (by simp)),(h.bel.trans hb).setCell (by simp) _⟩
theorem CpS.f1 {F:Nat→Prop} {S:NSl3} {w wr w':World} {N:NV} {U:NSl3} {u:Sl3} {xs:List PortV} (h:CpS F S w N U wr) (hF:∀b,F b→b<w.heap.size) (hr:RI portR w' w.heap.size F 68 u xs) (hc:ChgT w.heap.size 68 wr w') (hb:Below w.heap.size wr w'):CpS F S w {N with ports:=xs} {U with pt:=u} (w'.setCell ⟨w.heap.size+2,1,none⟩ (.slice u.A u.n u.c)):=by
 have q3:=h.box.box hc (by decide);have c3:=q3.chgT (B:=w.heap.size) (by omega) 1 (.slice u.A u.n u.c);exact ⟨(h.own.setPt hc hF hr).box c3 vEi hF,q3.set 1 _,(h.res.box hc (by decide)).same (Below.heap_setCell _ _ _ _ (by simp)),(h.arg.box hc (by decide)).same (Below.heap_setCell _ _ _ _ (by simp)),(h.bel.trans hb).setCell (by simp) _⟩
theorem CpS.f2 {F:Nat→Prop} {S:NSl3} {w wr w':World} {N:NV} {U:NSl3} {u:Sl3} {xs:List LinkV} (h:CpS F S w N U wr) (hF:∀b,F b→b<w.heap.size) (hr:RI linkR w' w.heap.size F 84 u xs) (hc:ChgT w.heap.size 84 wr w') (hb:Below w.heap.size wr w'):CpS F S w {N with links:=xs} {U with lk:=u} (w'.setCell ⟨w.heap.size+2,2,none⟩ (.slice u.A u.n u.c)):=by
 have q3:=h.box.box hc (by decide);have c3:=q3.chgT (B:=w.heap.size) (by omega) 2 (.slice u.A u.n u.c);exact ⟨(h.own.setLk hc hF hr).box c3 vEi hF,q3.set 2 _,(h.res.box hc (by decide)).same (Below.heap_setCell _ _ _ _ (by simp)),(h.arg.box hc (by decide)).same (Below.heap_setCell _ _ _ _ (by simp)),(h.bel.trans hb).setCell (by simp) _⟩
theorem CpS.f3 {F:Nat→Prop} {S:NSl3} {w wr w':World} {N:NV} {U:NSl3} {u:Sl3} {xs:List DomV} (h:CpS F S w N U wr) (hF:∀b,F b→b<w.heap.size) (hr:RI domR w' w.heap.size F 54 u xs) (hc:ChgT w.heap.size 54 wr w') (hb:Below w.heap.size wr w'):CpS F S w {N with domains:=xs} {U with dm:=u} (w'.setCell ⟨w.heap.size+2,3,none⟩ (.slice u.A u.n u.c)):=by
 have q3:=h.box.box hc (by decide);have c3:=q3.chgT (B:=w.heap.size) (by omega) 3 (.slice u.A u.n u.c);exact ⟨(h.own.setDm hc hF hr).box c3 vEi hF,q3.set 3 _,(h.res.box hc (by decide)).same (Below.heap_setCell _ _ _ _ (by simp)),(h.arg.box hc (by decide)).same (Below.heap_setCell _ _ _ _ (by simp)),(h.bel.trans hb).setCell (by simp) _⟩
theorem CpS.f4 {F:Nat→Prop} {S:NSl3} {w wr w':World} {N:NV} {U:NSl3} {u:Sl3} {xs:List StatV} (h:CpS F S w N U wr) (hF:∀b,F b→b<w.heap.size) (hr:RI statR w' w.heap.size F 89 u xs) (hc:ChgT w.heap.size 89 wr w') (hb:Below w.heap.size wr w'):CpS F S w {N with statics:=xs} {U with st:=u} (w'.setCell ⟨w.heap.size+2,4,none⟩ (.slice u.A u.n u.c)):=by
 have q3:=h.box.box hc (by decide);have c3:=q3.chgT (B:=w.heap.size) (by omega) 4 (.slice u.A u.n u.c);exact ⟨(h.own.setSt hc hF hr).box c3 vEi hF,q3.set 4 _,(h.res.box hc (by decide)).same (Below.heap_setCell _ _ _ _ (by simp)),(h.arg.box hc (by decide)).same (Below.heap_setCell _ _ _ _ (by simp)),(h.bel.trans hb).setCell (by simp) _⟩
theorem CpS.f5 {F:Nat→Prop} {S:NSl3} {w wr w':World} {N:NV} {U:NSl3} {u:Sl3} {xs:List FloodV} (h:CpS F S w N U wr) (hF:∀b,F b→b<w.heap.size) (hr:RI floodR w' w.heap.size F 71 u xs) (hc:ChgT w.heap.size 71 wr w') (hb:Below w.heap.size wr w'):CpS F S w {N with floods:=xs} {U with fl:=u} (w'.setCell ⟨w.heap.size+2,5,none⟩ (.slice u.A u.n u.c)):=by
 have q3:=h.box.box hc (by decide);have c3:=q3.chgT (B:=w.heap.size) (by omega) 5 (.slice u.A u.n u.c);exact ⟨(h.own.setFl hc hF hr).box c3 vEi hF,q3.set 5 _,(h.res.box hc (by decide)).same (Below.heap_setCell _ _ _ _ (by simp)),(h.arg.box hc (by decide)).same (Below.heap_setCell _ _ _ _ (by simp)),(h.bel.trans hb).setCell (by simp) _⟩
theorem CpS.f6 {F:Nat→Prop} {S:NSl3} {w wr w':World} {N:NV} {U:NSl3} {u:Sl3} {xs:List VrfV} (h:CpS F S w N U wr) (hF:∀b,F b→b<w.heap.size) (hr:RI vrfR w' w.heap.size F 74 u xs) (hc:ChgT w.heap.size 74 wr w') (hb:Below w.heap.size wr w'):CpS F S w {N with vrfs:=xs} {U with vr:=u} (w'.setCell ⟨w.heap.size+2,6,none⟩ (.slice u.A u.n u.c)):=by
 have q3:=h.box.box hc (by decide);have c3:=q3.chgT (B:=w.heap.size) (by omega) 6 (.slice u.A u.n u.c);exact ⟨(h.own.setVr hc hF hr).box c3 vEi hF,q3.set 6 _,(h.res.box hc (by decide)).same (Below.heap_setCell _ _ _ _ (by simp)),(h.arg.box hc (by decide)).same (Below.heap_setCell _ _ _ _ (by simp)),(h.bel.trans hb).setCell (by simp) _⟩
theorem CpS.f7 {F:Nat→Prop} {S:NSl3} {w wr w':World} {N:NV} {U:NSl3} {u:Sl3} {xs:List IrbV} (h:CpS F S w N U wr) (hF:∀b,F b→b<w.heap.size) (hr:RI irbR w' w.heap.size F 98 u xs) (hc:ChgT w.heap.size 98 wr w') (hb:Below w.heap.size wr w'):CpS F S w {N with irbs:=xs} {U with ir:=u} (w'.setCell ⟨w.heap.size+2,7,none⟩ (.slice u.A u.n u.c)):=by
 have q3:=h.box.box hc (by decide);have c3:=q3.chgT (B:=w.heap.size) (by omega) 7 (.slice u.A u.n u.c);exact ⟨(h.own.setIr hc hF hr).box c3 vEi hF,q3.set 7 _,(h.res.box hc (by decide)).same (Below.heap_setCell _ _ _ _ (by simp)),(h.arg.box hc (by decide)).same (Below.heap_setCell _ _ _ _ (by simp)),(h.bel.trans hb).setCell (by simp) _⟩
theorem CpS.pport {F:Nat→Prop} {S:NSl3} {w wr:World} {N:NV} {U:NSl3} (h:CpS F S w N U wr) (hF:∀b,F b→b<w.heap.size) (k:Nat) (hk:k<N.ports.length) (g:Nat) (hg:U.pt.A=some ⟨g,0,none⟩) (i:Nat) (hi:i<7) (v:Value)
 (hp:∀us,portR.rd wr (InB wr w.heap.size F) us (N.ports.getD k PortV.zero)→portR.rd wr (InB wr w.heap.size F) (us.set i v) (N.ports.getD k PortV.zero)):CpS F S w N U (wr.setCell ⟨g,k * 7+i,none⟩ v):=by
 obtain ⟨h1,hc⟩:=h.own.pt.put (d:=PortV.zero) vDn hF k hk i hi v (N.ports.getD k PortV.zero) g hg hp;rw [set_self] at h1;obtain ⟨g2,cur,hg2,hB,_⟩:=h.own.pt.row (by omega)
 have eg:g2=g:=by rw [hg] at hg2;injection hg2 with e;injection e with e _;exact e.symm
 rw [eg] at hB;exact ⟨h.own.setPt hc hF h1,h.box.box hc (by decide),h.res.box hc (by decide),h.arg.box hc (by decide),h.bel.setCell hB _⟩
theorem CpS.pdom {F:Nat→Prop} {S:NSl3} {w wr:World} {N:NV} {U:NSl3} (h:CpS F S w N U wr) (hF:∀b,F b→b<w.heap.size) (k:Nat) (hk:k<N.domains.length) (g:Nat) (hg:U.dm.A=some ⟨g,0,none⟩) (i:Nat) (hi:i<6) (v:Value)
 (hp:∀us,domR.rd wr (InB wr w.heap.size F) us (N.domains.getD k DomV.zero)→domR.rd wr (InB wr w.heap.size F) (us.set i v) (N.domains.getD k DomV.zero)):CpS F S w N U (wr.setCell ⟨g,k * 6+i,none⟩ v):=by
 obtain ⟨h1,hc⟩:=h.own.dm.put (d:=DomV.zero) vDh hF k hk i hi v (N.domains.getD k DomV.zero) g hg hp;rw [set_self] at h1;obtain ⟨g2,cur,hg2,hB,_⟩:=h.own.dm.row (by omega)
 have eg:g2=g:=by rw [hg] at hg2;injection hg2 with e;injection e with e _;exact e.symm
 rw [eg] at hB;exact ⟨h.own.setDm hc hF h1,h.box.box hc (by decide),h.res.box hc (by decide),h.arg.box hc (by decide),h.bel.setCell hB _⟩
theorem CpS.pflood {F:Nat→Prop} {S:NSl3} {w wr:World} {N:NV} {U:NSl3} (h:CpS F S w N U wr) (hF:∀b,F b→b<w.heap.size) (k:Nat) (hk:k<N.floods.length) (g:Nat) (hg:U.fl.A=some ⟨g,0,none⟩) (i:Nat) (hi:i<4) (v:Value)
 (hp:∀us,floodR.rd wr (InB wr w.heap.size F) us (N.floods.getD k FloodV.zero)→floodR.rd wr (InB wr w.heap.size F) (us.set i v) (N.floods.getD k FloodV.zero)):CpS F S w N U (wr.setCell ⟨g,k * 4+i,none⟩ v):=by
 obtain ⟨h1,hc⟩:=h.own.fl.put (d:=FloodV.zero) vBx hF k hk i hi v (N.floods.getD k FloodV.zero) g hg hp;rw [set_self] at h1;obtain ⟨g2,cur,hg2,hB,_⟩:=h.own.fl.row (by omega)
 have eg:g2=g:=by rw [hg] at hg2;injection hg2 with e;injection e with e _;exact e.symm
 rw [eg] at hB;exact ⟨h.own.setFl hc hF h1,h.box.box hc (by decide),h.res.box hc (by decide),h.arg.box hc (by decide),h.bel.setCell hB _⟩
theorem CpS.pvrf {F:Nat→Prop} {S:NSl3} {w wr:World} {N:NV} {U:NSl3} (h:CpS F S w N U wr) (hF:∀b,F b→b<w.heap.size) (k:Nat) (hk:k<N.vrfs.length) (g:Nat) (hg:U.vr.A=some ⟨g,0,none⟩) (i:Nat) (hi:i<5) (v:Value)
 (hp:∀us,vrfR.rd wr (InB wr w.heap.size F) us (N.vrfs.getD k VrfV.zero)→vrfR.rd wr (InB wr w.heap.size F) (us.set i v) (N.vrfs.getD k VrfV.zero)):CpS F S w N U (wr.setCell ⟨g,k * 5+i,none⟩ v):=by
 obtain ⟨h1,hc⟩:=h.own.vr.put (d:=VrfV.zero) vEq hF k hk i hi v (N.vrfs.getD k VrfV.zero) g hg hp;rw [set_self] at h1;obtain ⟨g2,cur,hg2,hB,_⟩:=h.own.vr.row (by omega)
 have eg:g2=g:=by rw [hg] at hg2;injection hg2 with e;injection e with e _;exact e.symm
 rw [eg] at hB;exact ⟨h.own.setVr hc hF h1,h.box.box hc (by decide),h.res.box hc (by decide),h.arg.box hc (by decide),h.bel.setCell hB _⟩
theorem CpS.up {F:Nat→Prop} {S:NSl3} {w wr w':World} {N:NV} {U:NSl3} (h:CpS F S w N U wr) (hb:Below wr.heap.size wr w'):CpS F S w N U w':=⟨h.own.up hb,h.box.below hb,h.res.below hb,h.arg.below hb,h.bel.trans (hb.mono h.bel.size)⟩
theorem rcopy_any (F:Nat→Prop) (N:NV) (S:NSl3) (w:World) (h:NRead w F N S) (hF:∀b,F b→b<w.heap.size) (hs:NvSz N):Calls Tryz.prog 27 #[vAm S] w (GotCopy F N w):=by
 have R0:=hid (fun (w':World) (hb:Below w.heap.size w w')=>h.dv.keep (F':=F) (fun b g=>hb.block b (hF b g)) (fun _ g=>g));have Z0:=hid (show N.devices.length≤200 from hs.zdv);have R1:=hid (fun (w':World) (hb:Below w.heap.size w w')=>h.pt.keep (F':=F) (fun b g=>hb.block b (hF b g)) (fun _ g=>g));have Z1:=hid (show N.ports.length≤200 from hs.zpt);have R2:=hid (fun (w':World) (hb:Below w.heap.size w w')=>h.lk.keep (F':=F) (fun b g=>hb.block b (hF b g)) (fun _ g=>g))
 have Z2:=hid (show N.links.length≤200 from hs.zlk);have R3:=hid (fun (w':World) (hb:Below w.heap.size w w')=>h.dm.keep (F':=F) (fun b g=>hb.block b (hF b g)) (fun _ g=>g));have Z3:=hid (show N.domains.length≤200 from hs.zdm);have R4:=hid (fun (w':World) (hb:Below w.heap.size w w')=>h.st.keep (F':=F) (fun b g=>hb.block b (hF b g)) (fun _ g=>g));have Z4:=hid (show N.statics.length≤200 from hs.zst)
 have R5:=hid (fun (w':World) (hb:Below w.heap.size w w')=>h.fl.keep (F':=F) (fun b g=>hb.block b (hF b g)) (fun _ g=>g));have Z5:=hid (show N.floods.length≤200 from hs.zfl);have R6:=hid (fun (w':World) (hb:Below w.heap.size w w')=>h.vr.keep (F':=F) (fun b g=>hb.block b (hF b g)) (fun _ g=>g));have Z6:=hid (show N.vrfs.length≤200 from hs.zvr);have R7:=hid (fun (w':World) (hb:Below w.heap.size w w')=>h.ir.keep (F':=F) (fun b g=>hb.block b (hF b g)) (fun _ g=>g))
 have Z7:=hid (show N.irbs.length≤200 from hs.zir);have HF:=hid hF;have SZ:=hid hs;have C0:=hid (cp_start F S w);clear h hF hs;unfold vAm
 go_enter Tryz.func27,Tryz.ntmps27
 go_upto_region 2 with fail
 obtain ⟨w1,hw1⟩:∃w1,((w.alloc (.cells (nA S) 31)).alloc (.cells #[.slice none 0 0,.slice none 0 0,.slice none 0 0,.slice none 0 0,.slice none 0 0,.slice none 0 0,.slice none 0 0,.slice none 0 0] 31)).alloc (.cells #[.slice none 0 0,.slice none 0 0,.slice none 0 0,.slice none 0 0,.slice none 0 0,.slice none 0 0,.slice none 0 0,.slice none 0 0] 31)=w1:=⟨_,rfl⟩;rw [hw1] at C0 ⊢;clear hw1
 go_cut [] (fun wx=>∃u0:Sl3,CpS F S w (⟨N.devices,[],[],[],[],[],[],[]⟩:NV) (⟨u0,Sl3.nil,Sl3.nil,Sl3.nil,Sl3.nil,Sl3.nil,Sl3.nil,Sl3.nil⟩:NSl3) wx)
 case first=>
  have a_:=C0.out.arg.cell 0 (.slice S.dv.A S.dv.n S.dv.c) rfl;have al_:=C0.out.arg.lt;have bl_:=C0.out.box.lt;have E_:=hid (C0.out.own.up ((Below.refl _ _).alloc (Nat.le_refl _) (.cells #[] 58)));have BL_:=hid (show Below w.heap.size w (w1.alloc (.cells #[] 58)) from C0.out.bel.trans (((Below.refl _ _).alloc (Nat.le_refl _) _).mono C0.out.bel.size));have RS_:=hid (R0.out _ BL_.out);go_wp2_with (at_builtin;(refine vCg devR rfl (.tmp 8) (.tmp 10) 22 Tryz.underlying22 (Desc.of (by kernel_rfl)) (by decide) rfl ⟨some ⟨w1.heap.size,0,none⟩,0,0⟩ (RI.lit0 (R:=devR) w1 w.heap.size F 58 C0.out.bel.size) vEr HF.out S.dv N.devices RS_.out ?hG ?hn ?hB rfl rfl ?_);(case hG=>exact fun b hb=>⟨Nat.lt_of_lt_of_le (HF.out b hb) BL_.out.size,.inl hb⟩);(case hn=>have:=Z0.out;simp;omega);(case hB=>exact BL_.out.size);intro u0 w2 hr hc hb;rw [List.nil_append] at hr;have K0:=hid (CpS.f0 (C0.out.up ((Below.refl _ _).alloc (Nat.le_refl _) (.cells #[] 58))) HF.out hr hc hb);have y_:=(C0.out.up ((Below.refl _ _).alloc (Nat.le_refl _) (.cells #[] 58))).box.box hc (by decide);have yc_:=y_.cell 0 (.slice none 0 0) rfl;have yf_:=y_.live 0;clear y_ hr hc hb)
  go_meet
  exact ⟨u0,K0.out⟩
 case rest=>
 obtain ⟨u0,hcut⟩:=hcut;rename World=>w11;have C1:=hid hcut;clear hcut
 go_upto_region 3 with fail
 go_cut [] (fun wx=>∃u0 u1:Sl3,CpS F S w (⟨N.devices,N.ports,[],[],[],[],[],[]⟩:NV) (⟨u0,u1,Sl3.nil,Sl3.nil,Sl3.nil,Sl3.nil,Sl3.nil,Sl3.nil⟩:NSl3) wx)
 case first=>
  have a_:=C1.out.arg.cell 1 (.slice S.pt.A S.pt.n S.pt.c) rfl;have al_:=C1.out.arg.lt;have bl_:=C1.out.box.lt;have E_:=hid (C1.out.own.up ((Below.refl _ _).alloc (Nat.le_refl _) (.cells #[] 68)));have BL_:=hid (show Below w.heap.size w (w11.alloc (.cells #[] 68)) from C1.out.bel.trans (((Below.refl _ _).alloc (Nat.le_refl _) _).mono C1.out.bel.size));have RS_:=hid (R1.out _ BL_.out);go_wp2_with (at_builtin;(refine vCg portR rfl (.tmp 13) (.tmp 15) 23 Tryz.underlying23 (Desc.of (by kernel_rfl)) (by decide) rfl ⟨some ⟨w11.heap.size,0,none⟩,0,0⟩ (RI.lit0 (R:=portR) w11 w.heap.size F 68 C1.out.bel.size) vDn HF.out S.pt N.ports RS_.out ?hG ?hn ?hB rfl rfl ?_);(case hG=>exact fun b hb=>⟨Nat.lt_of_lt_of_le (HF.out b hb) BL_.out.size,.inl hb⟩);(case hn=>have:=Z1.out;simp;omega);(case hB=>exact BL_.out.size);intro u1 w2 hr hc hb;rw [List.nil_append] at hr;have K1:=hid (CpS.f1 (C1.out.up ((Below.refl _ _).alloc (Nat.le_refl _) (.cells #[] 68))) HF.out hr hc hb);have y_:=(C1.out.up ((Below.refl _ _).alloc (Nat.le_refl _) (.cells #[] 68))).box.box hc (by decide);have yc_:=y_.cell 1 (.slice none 0 0) rfl;have yf_:=y_.live 1;clear y_ hr hc hb)
  go_meet
  exact ⟨u0,u1,K1.out⟩
 case rest=>
 obtain ⟨u0,u1,hcut⟩:=hcut;rename World=>w12;have C2:=hid hcut;clear hcut
 go_upto_region 4 with fail
 go_cut [] (fun wx=>∃u0 u1 u2:Sl3,CpS F S w (⟨N.devices,N.ports,N.links,[],[],[],[],[]⟩:NV) (⟨u0,u1,u2,Sl3.nil,Sl3.nil,Sl3.nil,Sl3.nil,Sl3.nil⟩:NSl3) wx)
 case first=>
  have a_:=C2.out.arg.cell 2 (.slice S.lk.A S.lk.n S.lk.c) rfl;have al_:=C2.out.arg.lt;have bl_:=C2.out.box.lt;have E_:=hid (C2.out.own.up ((Below.refl _ _).alloc (Nat.le_refl _) (.cells #[] 84)));have BL_:=hid (show Below w.heap.size w (w12.alloc (.cells #[] 84)) from C2.out.bel.trans (((Below.refl _ _).alloc (Nat.le_refl _) _).mono C2.out.bel.size));have RS_:=hid (R2.out _ BL_.out);go_wp2_with (at_builtin;(refine vCg linkR rfl (.tmp 18) (.tmp 20) 24 Tryz.underlying24 (Desc.of (by kernel_rfl)) (by decide) rfl ⟨some ⟨w12.heap.size,0,none⟩,0,0⟩ (RI.lit0 (R:=linkR) w12 w.heap.size F 84 C2.out.bel.size) vEa HF.out S.lk N.links RS_.out ?hG ?hn ?hB rfl rfl ?_);(case hG=>exact fun b hb=>⟨Nat.lt_of_lt_of_le (HF.out b hb) BL_.out.size,.inl hb⟩);(case hn=>have:=Z2.out;simp;omega);(case hB=>exact BL_.out.size);intro u2 w2 hr hc hb;rw [List.nil_append] at hr;have K2:=hid (CpS.f2 (C2.out.up ((Below.refl _ _).alloc (Nat.le_refl _) (.cells #[] 84))) HF.out hr hc hb);have y_:=(C2.out.up ((Below.refl _ _).alloc (Nat.le_refl _) (.cells #[] 84))).box.box hc (by decide);have yc_:=y_.cell 2 (.slice none 0 0) rfl;have yf_:=y_.live 2;clear y_ hr hc hb)
  go_meet
  exact ⟨u0,u1,u2,K2.out⟩
 case rest=>
 obtain ⟨u0,u1,u2,hcut⟩:=hcut;rename World=>w13;have C3:=hid hcut;clear hcut
 go_upto_region 5 with fail
 go_cut [] (fun wx=>∃u0 u1 u2 u3:Sl3,CpS F S w (⟨N.devices,N.ports,N.links,N.domains,[],[],[],[]⟩:NV) (⟨u0,u1,u2,u3,Sl3.nil,Sl3.nil,Sl3.nil,Sl3.nil⟩:NSl3) wx)
 case first=>
  have a_:=C3.out.arg.cell 3 (.slice S.dm.A S.dm.n S.dm.c) rfl;have al_:=C3.out.arg.lt;have bl_:=C3.out.box.lt;have E_:=hid (C3.out.own.up ((Below.refl _ _).alloc (Nat.le_refl _) (.cells #[] 54)));have BL_:=hid (show Below w.heap.size w (w13.alloc (.cells #[] 54)) from C3.out.bel.trans (((Below.refl _ _).alloc (Nat.le_refl _) _).mono C3.out.bel.size));have RS_:=hid (R3.out _ BL_.out);go_wp2_with (at_builtin;(refine vCg domR rfl (.tmp 23) (.tmp 25) 25 Tryz.underlying25 (Desc.of (by kernel_rfl)) (by decide) rfl ⟨some ⟨w13.heap.size,0,none⟩,0,0⟩ (RI.lit0 (R:=domR) w13 w.heap.size F 54 C3.out.bel.size) vDh HF.out S.dm N.domains RS_.out ?hG ?hn ?hB rfl rfl ?_);(case hG=>exact fun b hb=>⟨Nat.lt_of_lt_of_le (HF.out b hb) BL_.out.size,.inl hb⟩);(case hn=>have:=Z3.out;simp;omega);(case hB=>exact BL_.out.size);intro u3 w2 hr hc hb;rw [List.nil_append] at hr;have K3:=hid (CpS.f3 (C3.out.up ((Below.refl _ _).alloc (Nat.le_refl _) (.cells #[] 54))) HF.out hr hc hb);have y_:=(C3.out.up ((Below.refl _ _).alloc (Nat.le_refl _) (.cells #[] 54))).box.box hc (by decide);have yc_:=y_.cell 3 (.slice none 0 0) rfl;have yf_:=y_.live 3;clear y_ hr hc hb)
  go_meet
  exact ⟨u0,u1,u2,u3,K3.out⟩
 case rest=>
 obtain ⟨u0,u1,u2,u3,hcut⟩:=hcut;rename World=>w14;have C4:=hid hcut;clear hcut
 go_upto_region 6 with fail
 go_cut [] (fun wx=>∃u0 u1 u2 u3 u4:Sl3,CpS F S w (⟨N.devices,N.ports,N.links,N.domains,N.statics,[],[],[]⟩:NV) (⟨u0,u1,u2,u3,u4,Sl3.nil,Sl3.nil,Sl3.nil⟩:NSl3) wx)
 case first=>
  have a_:=C4.out.arg.cell 4 (.slice S.st.A S.st.n S.st.c) rfl;have al_:=C4.out.arg.lt;have bl_:=C4.out.box.lt;have E_:=hid (C4.out.own.up ((Below.refl _ _).alloc (Nat.le_refl _) (.cells #[] 89)));have BL_:=hid (show Below w.heap.size w (w14.alloc (.cells #[] 89)) from C4.out.bel.trans (((Below.refl _ _).alloc (Nat.le_refl _) _).mono C4.out.bel.size));have RS_:=hid (R4.out _ BL_.out);go_wp2_with (at_builtin;(refine vCg statR rfl (.tmp 28) (.tmp 30) 26 Tryz.underlying26 (Desc.of (by kernel_rfl)) (by decide) rfl ⟨some ⟨w14.heap.size,0,none⟩,0,0⟩ (RI.lit0 (R:=statR) w14 w.heap.size F 89 C4.out.bel.size) vEh HF.out S.st N.statics RS_.out ?hG ?hn ?hB rfl rfl ?_);(case hG=>exact fun b hb=>⟨Nat.lt_of_lt_of_le (HF.out b hb) BL_.out.size,.inl hb⟩);(case hn=>have:=Z4.out;simp;omega);(case hB=>exact BL_.out.size);intro u4 w2 hr hc hb;rw [List.nil_append] at hr;have K4:=hid (CpS.f4 (C4.out.up ((Below.refl _ _).alloc (Nat.le_refl _) (.cells #[] 89))) HF.out hr hc hb);have y_:=(C4.out.up ((Below.refl _ _).alloc (Nat.le_refl _) (.cells #[] 89))).box.box hc (by decide);have yc_:=y_.cell 4 (.slice none 0 0) rfl;have yf_:=y_.live 4;clear y_ hr hc hb)
  go_meet
  exact ⟨u0,u1,u2,u3,u4,K4.out⟩
 case rest=>
 obtain ⟨u0,u1,u2,u3,u4,hcut⟩:=hcut;rename World=>w15;have C5:=hid hcut;clear hcut
 go_upto_region 7 with fail
 go_cut [] (fun wx=>∃u0 u1 u2 u3 u4 u5:Sl3,CpS F S w (⟨N.devices,N.ports,N.links,N.domains,N.statics,N.floods,[],[]⟩:NV) (⟨u0,u1,u2,u3,u4,u5,Sl3.nil,Sl3.nil⟩:NSl3) wx)
 case first=>
  have a_:=C5.out.arg.cell 5 (.slice S.fl.A S.fl.n S.fl.c) rfl;have al_:=C5.out.arg.lt;have bl_:=C5.out.box.lt;have E_:=hid (C5.out.own.up ((Below.refl _ _).alloc (Nat.le_refl _) (.cells #[] 71)));have BL_:=hid (show Below w.heap.size w (w15.alloc (.cells #[] 71)) from C5.out.bel.trans (((Below.refl _ _).alloc (Nat.le_refl _) _).mono C5.out.bel.size));have RS_:=hid (R5.out _ BL_.out);go_wp2_with (at_builtin;(refine vCg floodR rfl (.tmp 33) (.tmp 35) 27 Tryz.underlying27 (Desc.of (by kernel_rfl)) (by decide) rfl ⟨some ⟨w15.heap.size,0,none⟩,0,0⟩ (RI.lit0 (R:=floodR) w15 w.heap.size F 71 C5.out.bel.size) vBx HF.out S.fl N.floods RS_.out ?hG ?hn ?hB rfl rfl ?_);(case hG=>exact fun b hb=>⟨Nat.lt_of_lt_of_le (HF.out b hb) BL_.out.size,.inl hb⟩);(case hn=>have:=Z5.out;simp;omega);(case hB=>exact BL_.out.size);intro u5 w2 hr hc hb;rw [List.nil_append] at hr;have K5:=hid (CpS.f5 (C5.out.up ((Below.refl _ _).alloc (Nat.le_refl _) (.cells #[] 71))) HF.out hr hc hb);have y_:=(C5.out.up ((Below.refl _ _).alloc (Nat.le_refl _) (.cells #[] 71))).box.box hc (by decide);have yc_:=y_.cell 5 (.slice none 0 0) rfl;have yf_:=y_.live 5;clear y_ hr hc hb)
  go_meet
  exact ⟨u0,u1,u2,u3,u4,u5,K5.out⟩
 case rest=>
 obtain ⟨u0,u1,u2,u3,u4,u5,hcut⟩:=hcut;rename World=>w16;have C6:=hid hcut;clear hcut
 go_upto_region 8 with fail
 go_cut [] (fun wx=>∃u0 u1 u2 u3 u4 u5 u6:Sl3,CpS F S w (⟨N.devices,N.ports,N.links,N.domains,N.statics,N.floods,N.vrfs,[]⟩:NV) (⟨u0,u1,u2,u3,u4,u5,u6,Sl3.nil⟩:NSl3) wx)
 case first=>
  have a_:=C6.out.arg.cell 6 (.slice S.vr.A S.vr.n S.vr.c) rfl;have al_:=C6.out.arg.lt;have bl_:=C6.out.box.lt;have E_:=hid (C6.out.own.up ((Below.refl _ _).alloc (Nat.le_refl _) (.cells #[] 74)));have BL_:=hid (show Below w.heap.size w (w16.alloc (.cells #[] 74)) from C6.out.bel.trans (((Below.refl _ _).alloc (Nat.le_refl _) _).mono C6.out.bel.size));have RS_:=hid (R6.out _ BL_.out);go_wp2_with (at_builtin;(refine vCg vrfR rfl (.tmp 38) (.tmp 40) 28 Tryz.underlying28 (Desc.of (by kernel_rfl)) (by decide) rfl ⟨some ⟨w16.heap.size,0,none⟩,0,0⟩ (RI.lit0 (R:=vrfR) w16 w.heap.size F 74 C6.out.bel.size) vEq HF.out S.vr N.vrfs RS_.out ?hG ?hn ?hB rfl rfl ?_);(case hG=>exact fun b hb=>⟨Nat.lt_of_lt_of_le (HF.out b hb) BL_.out.size,.inl hb⟩);(case hn=>have:=Z6.out;simp;omega);(case hB=>exact BL_.out.size);intro u6 w2 hr hc hb;rw [List.nil_append] at hr;have K6:=hid (CpS.f6 (C6.out.up ((Below.refl _ _).alloc (Nat.le_refl _) (.cells #[] 74))) HF.out hr hc hb);have y_:=(C6.out.up ((Below.refl _ _).alloc (Nat.le_refl _) (.cells #[] 74))).box.box hc (by decide);have yc_:=y_.cell 6 (.slice none 0 0) rfl;have yf_:=y_.live 6;clear y_ hr hc hb)
  go_meet
  exact ⟨u0,u1,u2,u3,u4,u5,u6,K6.out⟩
 case rest=>
 obtain ⟨u0,u1,u2,u3,u4,u5,u6,hcut⟩:=hcut;rename World=>w17;have C7:=hid hcut;clear hcut
 go_upto_region 9 with fail
 go_cut [] (fun wx=>∃u0 u1 u2 u3 u4 u5 u6 u7:Sl3,CpS F S w N (⟨u0,u1,u2,u3,u4,u5,u6,u7⟩:NSl3) wx)
 case first=>
  have a_:=C7.out.arg.cell 7 (.slice S.ir.A S.ir.n S.ir.c) rfl;have al_:=C7.out.arg.lt;have bl_:=C7.out.box.lt;have E_:=hid (C7.out.own.up ((Below.refl _ _).alloc (Nat.le_refl _) (.cells #[] 98)));have BL_:=hid (show Below w.heap.size w (w17.alloc (.cells #[] 98)) from C7.out.bel.trans (((Below.refl _ _).alloc (Nat.le_refl _) _).mono C7.out.bel.size));have RS_:=hid (R7.out _ BL_.out);go_wp2_with (at_builtin;(refine vCg irbR rfl (.tmp 43) (.tmp 45) 29 Tryz.underlying29 (Desc.of (by kernel_rfl)) (by decide) rfl ⟨some ⟨w17.heap.size,0,none⟩,0,0⟩ (RI.lit0 (R:=irbR) w17 w.heap.size F 98 C7.out.bel.size) vFi HF.out S.ir N.irbs RS_.out ?hG ?hn ?hB rfl rfl ?_);(case hG=>exact fun b hb=>⟨Nat.lt_of_lt_of_le (HF.out b hb) BL_.out.size,.inl hb⟩);(case hn=>have:=Z7.out;simp;omega);(case hB=>exact BL_.out.size);intro u7 w2 hr hc hb;rw [List.nil_append] at hr;have K7:=hid (CpS.f7 (C7.out.up ((Below.refl _ _).alloc (Nat.le_refl _) (.cells #[] 98))) HF.out hr hc hb);have y_:=(C7.out.up ((Below.refl _ _).alloc (Nat.le_refl _) (.cells #[] 98))).box.box hc (by decide);have yc_:=y_.cell 7 (.slice none 0 0) rfl;have yf_:=y_.live 7;clear y_ hr hc hb)
  go_meet
  exact ⟨u0,u1,u2,u3,u4,u5,u6,u7,K7.out⟩
 case rest=>
 obtain ⟨u0,u1,u2,u3,u4,u5,u6,u7,hcut⟩:=hcut;rename World=>w18;have C8:=hid hcut;clear hcut;obtain ⟨U,hU⟩:∃U:NSl3,(⟨u0,u1,u2,u3,u4,u5,u6,u7⟩:NSl3)=U:=⟨_,rfl⟩;rw [hU] at C8;clear hU;clear R0 R1 R2 R3 R4 R5 R6 R7 C0 C1 C2 C3 C4 C5 C6 C7
 go_upto_block 0 with fail
 go_cut [] (fun wx=>CpS F S w N U wx)
 case first=>
  have a_:=C8.out.box.cell 1 (.slice U.pt.A U.pt.n U.pt.c) rfl;have bl_:=C8.out.box.lt;go_wp2_with fail;clear a_ bl_
  go_loopw [4] (fun i wr=>∃k:Nat,i=.int .i64 k∧k≤U.pt.n∧CpS F S w N U wr) (fun i _=>match i with| .int _ y=>(U.pt.n - y).toNat|_=>0)
  case atStart=>exact ⟨0,rfl,by omega,C8.out⟩
  case round=>
  obtain ⟨k,rfl,hk,hcp⟩:=hrel;have CK:=hid hcp;have a_:=hcp.box.cell 1 (.slice U.pt.A U.pt.n U.pt.c) rfl;have bl_:=hcp.box.lt;have hlen:=hcp.own.pt.len;have hle:=hcp.own.pt.le;have hle1:=hle.1
  have hle2:U.pt.c≤9223372036854775807:=by have:=hle.2;unfold maxLen at this;omega
  have hzl:=Z1.out;clear hcp hle
  by_cases hlt:k<U.pt.n
  rotate_left
  · have lt2:¬(k:Int)<(U.pt.n:Int):=by omega
    go_wp2
    go_meet
    exact CK.out
  have lt2:(k:Int)<(U.pt.n:Int):=by omega
  have hkx:k<N.ports.length:=by omega
  obtain ⟨g,cur,hg,hB,hrow⟩:=CK.out.own.pt.row (by omega);obtain ⟨o0,ho0⟩:∃o0:Nat,o0=0:=⟨0,rfl⟩;have OO:=hid ho0;have HG:=hid hg;have HKX:=hid hkx;rw [hg,show (⟨g,0,none⟩:Addr)=⟨g,o0,none⟩ by rw [ho0]] at a_;clear hg hB hrow cur hlen ho0;go_wp2_with fail;obtain ⟨W0,hW0⟩:∃W0,wr.drew=W0:=⟨_,rfl⟩;have D0:=hid (show CpS F S w N U W0 from hW0▸CK.out.up ((Below.refl _ _).drew));obtain ⟨us,hus,hcl⟩:=D0.out.own.pt.at_ g HG.out k HKX.out PortV.zero
  obtain ⟨t,rfl,l⟩:=hus;have TY:=hid l;have xlen:=l.len;have xl:=l.le;have xc:=l.cap
  have xsz:(N.ports.getD k PortV.zero).tagged.length≤100:=by have:=SZ.out.ipt k (by omega);omega
  have HX:=hid hW0;clear hW0;obtain ⟨s',W2,hrun,LS,hb2⟩:=run_il (P:=Tryz.prog) (w:=W0) 34 34 3 Tryz.underlying34 (Desc.of (by kernel_rfl)) (.inl rfl) t (N.ports.getD k PortV.zero).tagged TY.out (fun b hb=>hb.1) (by omega);have LQ:=LS.keep (F':=InB W2 w.heap.size F) (fun _ _=>rfl) (fun b hb=>⟨hb.2.lt,.inr ⟨Nat.le_trans D0.out.bel.size hb.1,hb.2⟩⟩);have D2:=hid (D0.out.up hb2)
  have D3:=hid (D2.out.pport HF.out k HKX.out g HG.out 6 (by decide) (.slice s'.A s'.n s'.c) (by
   rintro us ⟨t2,rfl,l2⟩
   exact ⟨s',rfl,LQ⟩))
  have gl:g<W0.heap.size:=by obtain ⟨g2,cur,hg2,_,hr2⟩:=D0.out.own.pt.row (by have:=HKX.out;omega);have eg:g2=g:=(by rw [HG.out] at hg2;injection hg2 with e;injection e with e _;exact e.symm);subst eg;rcases Nat.lt_or_ge g2 W0.heap.size with h'|h';exact h';rw [Array.getElem?_eq_none h'] at hr2;cases hr2
  have x0:W0.cell? ⟨g,o0+k * 7+6,none⟩=some (.slice t.A t.n t.c):=by rw [OO.out,Nat.zero_add];exact hcl 6 _ rfl
  have x1:(W0.alloc (.cells #[] 3)).cell? ⟨g,o0+k * 7+6,none⟩=some (.slice t.A t.n t.c):=(((Below.refl W0.heap.size W0).alloc (Nat.le_refl _) _).cell (p:=⟨g,_,none⟩) gl).trans x0;have x2:W2.cell? ⟨g,o0+k * 7+6,none⟩=some (.slice t.A t.n t.c):=(hb2.cell (p:=⟨g,_,none⟩) gl).trans x0
  have f2:W2.frozen? ⟨g,o0+k * 7+6,none⟩=false:=by
   obtain ⟨g2,cur,hg2,_,hr2⟩:=D2.out.own.pt.row (by have:=HKX.out;omega)
   have eg:g2=g:=by rw [HG.out] at hg2;injection hg2 with e;injection e with e _;exact e.symm
   subst eg;simp [World.frozen?,hr2]
  have b0:W0.cell? ⟨w.heap.size+1+1,1,none⟩=some (.slice (some ⟨g,o0,none⟩) U.pt.n U.pt.c):=by have:=D0.out.box.cell 1 (.slice U.pt.A U.pt.n U.pt.c) rfl;rw [HG.out] at this;rw [OO.out];exact this
  have b2:W2.cell? ⟨w.heap.size+1+1,1,none⟩=some (.slice (some ⟨g,o0,none⟩) U.pt.n U.pt.c):=(hb2.cell (p:=⟨w.heap.size+2,1,none⟩) D0.out.box.lt).trans b0;have b1:(W0.alloc (.cells #[] 3)).cell? ⟨w.heap.size+1+1,1,none⟩=some (.slice (some ⟨g,o0,none⟩) U.pt.n U.pt.c):=(((Below.refl W0.heap.size W0).alloc (Nat.le_refl _) _).cell (p:=⟨w.heap.size+2,1,none⟩) D0.out.box.lt).trans b0;obtain ⟨W1,hW1⟩:∃W1,W0.alloc (.cells #[] 3)=W1:=⟨_,rfl⟩
  have ew3:W2.setCell ⟨g,k * 7+6,none⟩ (.slice s'.A s'.n s'.c)=W2.setCell ⟨g,o0+k * 7+6,none⟩ (.slice s'.A s'.n s'.c):=by rw [OO.out,Nat.zero_add]
  rw [ew3] at D3;clear ew3;obtain ⟨W3,hW3⟩:∃W3,W2.setCell ⟨g,o0+k * 7+6,none⟩ (.slice s'.A s'.n s'.c)=W3:=⟨_,rfl⟩;rw [hW1] at hrun x1 b1;rw [hW3] at D3
  have b3:W3.cell? ⟨w.heap.size+1+1,1,none⟩=some (.slice (some ⟨g,o0,none⟩) U.pt.n U.pt.c):=by have:=D3.out.box.cell 1 (.slice U.pt.A U.pt.n U.pt.c) rfl;rw [HG.out] at this;rw [OO.out];exact this
  have H1:=hid hW1;have H3:=hid hW3;have HR:=hid hrun
  have CB:=hid (fun m wx (hx:PhL [W0,W1,W2,W3] m wx)=>hx.all (P:=fun x=>x.cell? ⟨w.heap.size+1+1,1,none⟩=some (.slice (some ⟨g,o0,none⟩) U.pt.n U.pt.c)) (by
   intro x hx;simp only [List.mem_cons,List.not_mem_nil,or_false] at hx
   rcases hx with rfl|rfl|rfl|rfl
   · exact b0
   · exact b1
   · exact b2
   · exact b3))
  have CX:=hid (fun m wx (hx:PhL [W0,W1,W2,W3] m wx) (hm:m≤1)=>hx.upto hm (P:=fun x=>x.cell? ⟨g,o0+k * 7+6,none⟩=some (.slice t.A t.n t.c)) (by
   intro x hx;simp only [List.take,List.mem_cons,List.not_mem_nil,or_false] at hx
   rcases hx with rfl|rfl
   · exact x0
   · exact x1))
  have X2:=hid x2;have F2:=hid f2;clear a_ hcl TY xlen xl xc xsz l hb2 gl x0 x1 x2 f2 b0 b1 b2 b3 hW1 hW3 hrun LS LQ;refine vAs (PhL [W0,W1,W2,W3]) [3,10,13] (by kernel_rfl) (by kernel_rfl) (by kernel_rfl) (by rw [HX.out];rfl) ?_
  repeat
   first
    |(refine SeqP.run ?_ 3 (vEk _ _ _ _) rfl (by decide) (fun m hm wx hx=>?_) ?_
      rotate_left
      · have cb:=CB.out m wx hx
        go_simp
        refine StepRun.val ?_;exact hx
      simp only [Act.put,List.setIfInBounds_toArray,List.set_cons_zero,List.set_cons_succ])
    |(refine SeqP.run (.slice t.A t.n t.c) 1 (of_decide_eq_true (by kernel_rfl)) rfl (by decide) (fun m hm wx hx=>?_) ?_
      · have cx:=CX.out m wx hx hm
        go_simp
        refine StepRun.val ?_;exact hx
      simp only [Act.put,List.setIfInBounds_toArray,List.set_cons_zero,List.set_cons_succ])
    |(refine SeqP.make (.slice (some ⟨W0.heap.size,0,none⟩) 0 0) 0 rfl rfl (fun wx hx=>?_) ?_
      · obtain rfl:W0=wx:=Option.some.inj hx
        go_simp
        exact ⟨rfl,by rw [H1.out];rfl⟩
      simp only [Act.put,List.setIfInBounds_toArray,List.set_cons_zero,List.set_cons_succ])
    |(refine SeqP.make (.slice s'.A s'.n s'.c) 1 rfl rfl (fun wx hx=>?_) ?_
      · obtain rfl:W1=wx:=Option.some.inj hx
        rw [vDo (t:=34) rfl rfl rfl HR.out];exact ⟨rfl,rfl⟩
      simp only [Act.put,List.setIfInBounds_toArray,List.set_cons_zero,List.set_cons_succ])
    |(refine SeqP.make undef 2 rfl rfl (fun wx hx=>?_) ?_
      · obtain rfl:W2=wx:=Option.some.inj hx
        have cx:=X2.out;have ff:=F2.out
        go_simp
        exact ⟨rfl,by rw [H3.out];rfl⟩
      simp only [Act.put])
  refine SeqP.last rfl (fun w9 h9=>?_);obtain rfl:W3=w9:=Option.some.inj h9;clear CK;have CK:=hid D3.out;clear D0 D2 D3 HX H1 H3 HR CB CX X2 F2;go_wp2
  go_roundw
  case rel=>exact ⟨k+1,by simp,by omega,CK.out⟩
  case measure=>simp only [];omega
 case rest=>
 rename World=>wL0;have E0:=hid hcut;clear hcut C8
 go_upto_block 2 with fail
 go_cut [] (fun wx=>CpS F S w N U wx)
 case first=>
  have a_:=E0.out.box.cell 3 (.slice U.dm.A U.dm.n U.dm.c) rfl;have bl_:=E0.out.box.lt;go_wp2_with fail;clear a_ bl_
  go_loopw [5] (fun i wr=>∃k:Nat,i=.int .i64 k∧k≤U.dm.n∧CpS F S w N U wr) (fun i _=>match i with| .int _ y=>(U.dm.n - y).toNat|_=>0)
  case atStart=>exact ⟨0,rfl,by omega,E0.out⟩
  case round=>
  obtain ⟨k,rfl,hk,hcp⟩:=hrel;have CK:=hid hcp;have a_:=hcp.box.cell 3 (.slice U.dm.A U.dm.n U.dm.c) rfl;have bl_:=hcp.box.lt;have hlen:=hcp.own.dm.len;have hle:=hcp.own.dm.le;have hle1:=hle.1
  have hle2:U.dm.c≤9223372036854775807:=by have:=hle.2;unfold maxLen at this;omega
  have hzl:=Z3.out;clear hcp hle
  by_cases hlt:k<U.dm.n
  rotate_left
  · have lt2:¬(k:Int)<(U.dm.n:Int):=by omega
    go_wp2
    go_meet
    exact CK.out
  have lt2:(k:Int)<(U.dm.n:Int):=by omega
  have hkx:k<N.domains.length:=by omega
  obtain ⟨g,cur,hg,hB,hrow⟩:=CK.out.own.dm.row (by omega);obtain ⟨o0,ho0⟩:∃o0:Nat,o0=0:=⟨0,rfl⟩;have OO:=hid ho0;have HG:=hid hg;have HKX:=hid hkx;rw [hg,show (⟨g,0,none⟩:Addr)=⟨g,o0,none⟩ by rw [ho0]] at a_;clear hg hB hrow cur hlen ho0;go_wp2_with fail;obtain ⟨W0,hW0⟩:∃W0,wr.drew=W0:=⟨_,rfl⟩;have D0:=hid (show CpS F S w N U W0 from hW0▸CK.out.up ((Below.refl _ _).drew));obtain ⟨us,hus,hcl⟩:=D0.out.own.dm.at_ g HG.out k HKX.out DomV.zero
  obtain ⟨t,rfl,l⟩:=hus;have TY:=hid l;have xlen:=l.len;have xl:=l.le;have xc:=l.cap
  have xsz:(N.domains.getD k DomV.zero).peers.length≤100:=by have:=SZ.out.idm k (by omega);omega
  have HX:=hid hW0;clear hW0;obtain ⟨s',W2,hrun,LS,hb2⟩:=run_il (P:=Tryz.prog) (w:=W0) 34 34 3 Tryz.underlying34 (Desc.of (by kernel_rfl)) (.inl rfl) t (N.domains.getD k DomV.zero).peers TY.out (fun b hb=>hb.1) (by omega);have LQ:=LS.keep (F':=InB W2 w.heap.size F) (fun _ _=>rfl) (fun b hb=>⟨hb.2.lt,.inr ⟨Nat.le_trans D0.out.bel.size hb.1,hb.2⟩⟩);have D2:=hid (D0.out.up hb2)
  have D3:=hid (D2.out.pdom HF.out k HKX.out g HG.out 5 (by decide) (.slice s'.A s'.n s'.c) (by
   rintro us ⟨t2,rfl,l2⟩
   exact ⟨s',rfl,LQ⟩))
  have gl:g<W0.heap.size:=by obtain ⟨g2,cur,hg2,_,hr2⟩:=D0.out.own.dm.row (by have:=HKX.out;omega);have eg:g2=g:=(by rw [HG.out] at hg2;injection hg2 with e;injection e with e _;exact e.symm);subst eg;rcases Nat.lt_or_ge g2 W0.heap.size with h'|h';exact h';rw [Array.getElem?_eq_none h'] at hr2;cases hr2
  have x0:W0.cell? ⟨g,o0+k * 6+5,none⟩=some (.slice t.A t.n t.c):=by rw [OO.out,Nat.zero_add];exact hcl 5 _ rfl
  have x1:(W0.alloc (.cells #[] 3)).cell? ⟨g,o0+k * 6+5,none⟩=some (.slice t.A t.n t.c):=(((Below.refl W0.heap.size W0).alloc (Nat.le_refl _) _).cell (p:=⟨g,_,none⟩) gl).trans x0;have x2:W2.cell? ⟨g,o0+k * 6+5,none⟩=some (.slice t.A t.n t.c):=(hb2.cell (p:=⟨g,_,none⟩) gl).trans x0
  have f2:W2.frozen? ⟨g,o0+k * 6+5,none⟩=false:=by
   obtain ⟨g2,cur,hg2,_,hr2⟩:=D2.out.own.dm.row (by have:=HKX.out;omega)
   have eg:g2=g:=by rw [HG.out] at hg2;injection hg2 with e;injection e with e _;exact e.symm
   subst eg;simp [World.frozen?,hr2]
  have b0:W0.cell? ⟨w.heap.size+1+1,3,none⟩=some (.slice (some ⟨g,o0,none⟩) U.dm.n U.dm.c):=by have:=D0.out.box.cell 3 (.slice U.dm.A U.dm.n U.dm.c) rfl;rw [HG.out] at this;rw [OO.out];exact this
  have b2:W2.cell? ⟨w.heap.size+1+1,3,none⟩=some (.slice (some ⟨g,o0,none⟩) U.dm.n U.dm.c):=(hb2.cell (p:=⟨w.heap.size+2,3,none⟩) D0.out.box.lt).trans b0;have b1:(W0.alloc (.cells #[] 3)).cell? ⟨w.heap.size+1+1,3,none⟩=some (.slice (some ⟨g,o0,none⟩) U.dm.n U.dm.c):=(((Below.refl W0.heap.size W0).alloc (Nat.le_refl _) _).cell (p:=⟨w.heap.size+2,3,none⟩) D0.out.box.lt).trans b0;obtain ⟨W1,hW1⟩:∃W1,W0.alloc (.cells #[] 3)=W1:=⟨_,rfl⟩
  have ew3:W2.setCell ⟨g,k * 6+5,none⟩ (.slice s'.A s'.n s'.c)=W2.setCell ⟨g,o0+k * 6+5,none⟩ (.slice s'.A s'.n s'.c):=by rw [OO.out,Nat.zero_add]
  rw [ew3] at D3;clear ew3;obtain ⟨W3,hW3⟩:∃W3,W2.setCell ⟨g,o0+k * 6+5,none⟩ (.slice s'.A s'.n s'.c)=W3:=⟨_,rfl⟩;rw [hW1] at hrun x1 b1;rw [hW3] at D3
  have b3:W3.cell? ⟨w.heap.size+1+1,3,none⟩=some (.slice (some ⟨g,o0,none⟩) U.dm.n U.dm.c):=by have:=D3.out.box.cell 3 (.slice U.dm.A U.dm.n U.dm.c) rfl;rw [HG.out] at this;rw [OO.out];exact this
  have H1:=hid hW1;have H3:=hid hW3;have HR:=hid hrun
  have CB:=hid (fun m wx (hx:PhL [W0,W1,W2,W3] m wx)=>hx.all (P:=fun x=>x.cell? ⟨w.heap.size+1+1,3,none⟩=some (.slice (some ⟨g,o0,none⟩) U.dm.n U.dm.c)) (by
   intro x hx;simp only [List.mem_cons,List.not_mem_nil,or_false] at hx
   rcases hx with rfl|rfl|rfl|rfl
   · exact b0
   · exact b1
   · exact b2
   · exact b3))
  have CX:=hid (fun m wx (hx:PhL [W0,W1,W2,W3] m wx) (hm:m≤1)=>hx.upto hm (P:=fun x=>x.cell? ⟨g,o0+k * 6+5,none⟩=some (.slice t.A t.n t.c)) (by
   intro x hx;simp only [List.take,List.mem_cons,List.not_mem_nil,or_false] at hx
   rcases hx with rfl|rfl
   · exact x0
   · exact x1))
  have X2:=hid x2;have F2:=hid f2;clear a_ hcl TY xlen xl xc xsz l hb2 gl x0 x1 x2 f2 b0 b1 b2 b3 hW1 hW3 hrun LS LQ;refine vAs (PhL [W0,W1,W2,W3]) [3,10,13] (by kernel_rfl) (by kernel_rfl) (by kernel_rfl) (by rw [HX.out];rfl) ?_
  repeat
   first
    |(refine SeqP.run ?_ 3 (vEk _ _ _ _) rfl (by decide) (fun m hm wx hx=>?_) ?_
      rotate_left
      · have cb:=CB.out m wx hx
        go_simp
        refine StepRun.val ?_;exact hx
      simp only [Act.put,List.setIfInBounds_toArray,List.set_cons_zero,List.set_cons_succ])
    |(refine SeqP.run (.slice t.A t.n t.c) 1 (of_decide_eq_true (by kernel_rfl)) rfl (by decide) (fun m hm wx hx=>?_) ?_
      · have cx:=CX.out m wx hx hm
        go_simp
        refine StepRun.val ?_;exact hx
      simp only [Act.put,List.setIfInBounds_toArray,List.set_cons_zero,List.set_cons_succ])
    |(refine SeqP.make (.slice (some ⟨W0.heap.size,0,none⟩) 0 0) 0 rfl rfl (fun wx hx=>?_) ?_
      · obtain rfl:W0=wx:=Option.some.inj hx
        go_simp
        exact ⟨rfl,by rw [H1.out];rfl⟩
      simp only [Act.put,List.setIfInBounds_toArray,List.set_cons_zero,List.set_cons_succ])
    |(refine SeqP.make (.slice s'.A s'.n s'.c) 1 rfl rfl (fun wx hx=>?_) ?_
      · obtain rfl:W1=wx:=Option.some.inj hx
        rw [vDo (t:=34) rfl rfl rfl HR.out];exact ⟨rfl,rfl⟩
      simp only [Act.put,List.setIfInBounds_toArray,List.set_cons_zero,List.set_cons_succ])
    |(refine SeqP.make undef 2 rfl rfl (fun wx hx=>?_) ?_
      · obtain rfl:W2=wx:=Option.some.inj hx
        have cx:=X2.out;have ff:=F2.out
        go_simp
        exact ⟨rfl,by rw [H3.out];rfl⟩
      simp only [Act.put])
  refine SeqP.last rfl (fun w9 h9=>?_);obtain rfl:W3=w9:=Option.some.inj h9;clear CK;have CK:=hid D3.out;clear D0 D2 D3 HX H1 H3 HR CB CX X2 F2;go_wp2
  go_roundw
  case rel=>exact ⟨k+1,by simp,by omega,CK.out⟩
  case measure=>simp only [];omega
 case rest=>
 rename World=>wL1;have E1:=hid hcut;clear hcut E0
 go_upto_block 4 with fail
 go_cut [] (fun wx=>CpS F S w N U wx)
 case first=>
  have a_:=E1.out.box.cell 5 (.slice U.fl.A U.fl.n U.fl.c) rfl;have bl_:=E1.out.box.lt;go_wp2_with fail;clear a_ bl_
  go_loopw [6] (fun i wr=>∃k:Nat,i=.int .i64 k∧k≤U.fl.n∧CpS F S w N U wr) (fun i _=>match i with| .int _ y=>(U.fl.n - y).toNat|_=>0)
  case atStart=>exact ⟨0,rfl,by omega,E1.out⟩
  case round=>
  obtain ⟨k,rfl,hk,hcp⟩:=hrel;have CK:=hid hcp;have a_:=hcp.box.cell 5 (.slice U.fl.A U.fl.n U.fl.c) rfl;have bl_:=hcp.box.lt;have hlen:=hcp.own.fl.len;have hle:=hcp.own.fl.le;have hle1:=hle.1
  have hle2:U.fl.c≤9223372036854775807:=by have:=hle.2;unfold maxLen at this;omega
  have hzl:=Z5.out;clear hcp hle
  by_cases hlt:k<U.fl.n
  rotate_left
  · have lt2:¬(k:Int)<(U.fl.n:Int):=by omega
    go_wp2
    go_meet
    exact CK.out
  have lt2:(k:Int)<(U.fl.n:Int):=by omega
  have hkx:k<N.floods.length:=by omega
  obtain ⟨g,cur,hg,hB,hrow⟩:=CK.out.own.fl.row (by omega);obtain ⟨o0,ho0⟩:∃o0:Nat,o0=0:=⟨0,rfl⟩;have OO:=hid ho0;have HG:=hid hg;have HKX:=hid hkx;rw [hg,show (⟨g,0,none⟩:Addr)=⟨g,o0,none⟩ by rw [ho0]] at a_;clear hg hB hrow cur hlen ho0;go_wp2_with fail;obtain ⟨W0,hW0⟩:∃W0,wr.drew=W0:=⟨_,rfl⟩;have D0:=hid (show CpS F S w N U W0 from hW0▸CK.out.up ((Below.refl _ _).drew));obtain ⟨us,hus,hcl⟩:=D0.out.own.fl.at_ g HG.out k HKX.out FloodV.zero
  obtain ⟨t,rfl,l⟩:=hus;have TY:=hid l;have xlen:=l.len;have xl:=l.le;have xc:=l.cap
  have xsz:(N.floods.getD k FloodV.zero).addrs.length≤100:=by have:=SZ.out.ifl k (by omega);omega
  have HX:=hid hW0;clear hW0;obtain ⟨s',W2,hrun,LS,hb2⟩:=run_il (P:=Tryz.prog) (w:=W0) 35 35 33 Tryz.underlying35 (Desc.of (by kernel_rfl)) (.inr rfl) t (N.floods.getD k FloodV.zero).addrs TY.out (fun b hb=>hb.1) (by omega);have LQ:=LS.keep (F':=InB W2 w.heap.size F) (fun _ _=>rfl) (fun b hb=>⟨hb.2.lt,.inr ⟨Nat.le_trans D0.out.bel.size hb.1,hb.2⟩⟩);have D2:=hid (D0.out.up hb2)
  have D3:=hid (D2.out.pflood HF.out k HKX.out g HG.out 3 (by decide) (.slice s'.A s'.n s'.c) (by
   rintro us ⟨t2,rfl,l2⟩
   exact ⟨s',rfl,LQ⟩))
  have gl:g<W0.heap.size:=by obtain ⟨g2,cur,hg2,_,hr2⟩:=D0.out.own.fl.row (by have:=HKX.out;omega);have eg:g2=g:=(by rw [HG.out] at hg2;injection hg2 with e;injection e with e _;exact e.symm);subst eg;rcases Nat.lt_or_ge g2 W0.heap.size with h'|h';exact h';rw [Array.getElem?_eq_none h'] at hr2;cases hr2
  have x0:W0.cell? ⟨g,o0+k * 4+3,none⟩=some (.slice t.A t.n t.c):=by rw [OO.out,Nat.zero_add];exact hcl 3 _ rfl
  have x1:(W0.alloc (.cells #[] 33)).cell? ⟨g,o0+k * 4+3,none⟩=some (.slice t.A t.n t.c):=(((Below.refl W0.heap.size W0).alloc (Nat.le_refl _) _).cell (p:=⟨g,_,none⟩) gl).trans x0;have x2:W2.cell? ⟨g,o0+k * 4+3,none⟩=some (.slice t.A t.n t.c):=(hb2.cell (p:=⟨g,_,none⟩) gl).trans x0
  have f2:W2.frozen? ⟨g,o0+k * 4+3,none⟩=false:=by
   obtain ⟨g2,cur,hg2,_,hr2⟩:=D2.out.own.fl.row (by have:=HKX.out;omega)
   have eg:g2=g:=by rw [HG.out] at hg2;injection hg2 with e;injection e with e _;exact e.symm
   subst eg;simp [World.frozen?,hr2]
  have b0:W0.cell? ⟨w.heap.size+1+1,5,none⟩=some (.slice (some ⟨g,o0,none⟩) U.fl.n U.fl.c):=by have:=D0.out.box.cell 5 (.slice U.fl.A U.fl.n U.fl.c) rfl;rw [HG.out] at this;rw [OO.out];exact this
  have b2:W2.cell? ⟨w.heap.size+1+1,5,none⟩=some (.slice (some ⟨g,o0,none⟩) U.fl.n U.fl.c):=(hb2.cell (p:=⟨w.heap.size+2,5,none⟩) D0.out.box.lt).trans b0;have b1:(W0.alloc (.cells #[] 33)).cell? ⟨w.heap.size+1+1,5,none⟩=some (.slice (some ⟨g,o0,none⟩) U.fl.n U.fl.c):=(((Below.refl W0.heap.size W0).alloc (Nat.le_refl _) _).cell (p:=⟨w.heap.size+2,5,none⟩) D0.out.box.lt).trans b0;obtain ⟨W1,hW1⟩:∃W1,W0.alloc (.cells #[] 33)=W1:=⟨_,rfl⟩
  have ew3:W2.setCell ⟨g,k * 4+3,none⟩ (.slice s'.A s'.n s'.c)=W2.setCell ⟨g,o0+k * 4+3,none⟩ (.slice s'.A s'.n s'.c):=by rw [OO.out,Nat.zero_add]
  rw [ew3] at D3;clear ew3;obtain ⟨W3,hW3⟩:∃W3,W2.setCell ⟨g,o0+k * 4+3,none⟩ (.slice s'.A s'.n s'.c)=W3:=⟨_,rfl⟩;rw [hW1] at hrun x1 b1;rw [hW3] at D3
  have b3:W3.cell? ⟨w.heap.size+1+1,5,none⟩=some (.slice (some ⟨g,o0,none⟩) U.fl.n U.fl.c):=by have:=D3.out.box.cell 5 (.slice U.fl.A U.fl.n U.fl.c) rfl;rw [HG.out] at this;rw [OO.out];exact this
  have H1:=hid hW1;have H3:=hid hW3;have HR:=hid hrun
  have CB:=hid (fun m wx (hx:PhL [W0,W1,W2,W3] m wx)=>hx.all (P:=fun x=>x.cell? ⟨w.heap.size+1+1,5,none⟩=some (.slice (some ⟨g,o0,none⟩) U.fl.n U.fl.c)) (by
   intro x hx;simp only [List.mem_cons,List.not_mem_nil,or_false] at hx
   rcases hx with rfl|rfl|rfl|rfl
   · exact b0
   · exact b1
   · exact b2
   · exact b3))
  have CX:=hid (fun m wx (hx:PhL [W0,W1,W2,W3] m wx) (hm:m≤1)=>hx.upto hm (P:=fun x=>x.cell? ⟨g,o0+k * 4+3,none⟩=some (.slice t.A t.n t.c)) (by
   intro x hx;simp only [List.take,List.mem_cons,List.not_mem_nil,or_false] at hx
   rcases hx with rfl|rfl
   · exact x0
   · exact x1))
  have X2:=hid x2;have F2:=hid f2;clear a_ hcl TY xlen xl xc xsz l hb2 gl x0 x1 x2 f2 b0 b1 b2 b3 hW1 hW3 hrun LS LQ;refine vAs (PhL [W0,W1,W2,W3]) [3,10,13] (by kernel_rfl) (by kernel_rfl) (by kernel_rfl) (by rw [HX.out];rfl) ?_
  repeat
   first
    |(refine SeqP.run ?_ 3 (vEk _ _ _ _) rfl (by decide) (fun m hm wx hx=>?_) ?_
      rotate_left
      · have cb:=CB.out m wx hx
        go_simp
        refine StepRun.val ?_;exact hx
      simp only [Act.put,List.setIfInBounds_toArray,List.set_cons_zero,List.set_cons_succ])
    |(refine SeqP.run (.slice t.A t.n t.c) 1 (of_decide_eq_true (by kernel_rfl)) rfl (by decide) (fun m hm wx hx=>?_) ?_
      · have cx:=CX.out m wx hx hm
        go_simp
        refine StepRun.val ?_;exact hx
      simp only [Act.put,List.setIfInBounds_toArray,List.set_cons_zero,List.set_cons_succ])
    |(refine SeqP.make (.slice (some ⟨W0.heap.size,0,none⟩) 0 0) 0 rfl rfl (fun wx hx=>?_) ?_
      · obtain rfl:W0=wx:=Option.some.inj hx
        go_simp
        exact ⟨rfl,by rw [H1.out];rfl⟩
      simp only [Act.put,List.setIfInBounds_toArray,List.set_cons_zero,List.set_cons_succ])
    |(refine SeqP.make (.slice s'.A s'.n s'.c) 1 rfl rfl (fun wx hx=>?_) ?_
      · obtain rfl:W1=wx:=Option.some.inj hx
        rw [vDo (t:=35) rfl rfl rfl HR.out];exact ⟨rfl,rfl⟩
      simp only [Act.put,List.setIfInBounds_toArray,List.set_cons_zero,List.set_cons_succ])
    |(refine SeqP.make undef 2 rfl rfl (fun wx hx=>?_) ?_
      · obtain rfl:W2=wx:=Option.some.inj hx
        have cx:=X2.out;have ff:=F2.out
        go_simp
        exact ⟨rfl,by rw [H3.out];rfl⟩
      simp only [Act.put])
  refine SeqP.last rfl (fun w9 h9=>?_);obtain rfl:W3=w9:=Option.some.inj h9;clear CK;have CK:=hid D3.out;clear D0 D2 D3 HX H1 H3 HR CB CX X2 F2;go_wp2
  go_roundw
  case rel=>exact ⟨k+1,by simp,by omega,CK.out⟩
  case measure=>simp only [];omega
 case rest=>
 rename World=>wL2;have E2:=hid hcut;clear hcut E1
 go_upto_block 6 with fail
 go_cut [] (fun wx=>CpS F S w N U wx)
 case first=>
  have a_:=E2.out.box.cell 6 (.slice U.vr.A U.vr.n U.vr.c) rfl;have bl_:=E2.out.box.lt;go_wp2_with fail;clear a_ bl_
  go_loopw [7] (fun i wr=>∃k:Nat,i=.int .i64 k∧k≤U.vr.n∧CpS F S w N U wr) (fun i _=>match i with| .int _ y=>(U.vr.n - y).toNat|_=>0)
  case atStart=>exact ⟨0,rfl,by omega,E2.out⟩
  case round=>
  obtain ⟨k,rfl,hk,hcp⟩:=hrel;have CK:=hid hcp;have a_:=hcp.box.cell 6 (.slice U.vr.A U.vr.n U.vr.c) rfl;have bl_:=hcp.box.lt;have hlen:=hcp.own.vr.len;have hle:=hcp.own.vr.le;have hle1:=hle.1
  have hle2:U.vr.c≤9223372036854775807:=by have:=hle.2;unfold maxLen at this;omega
  have hzl:=Z6.out;clear hcp hle
  by_cases hlt:k<U.vr.n
  rotate_left
  · have lt2:¬(k:Int)<(U.vr.n:Int):=by omega
    go_wp2
    go_meet
    exact CK.out
  have lt2:(k:Int)<(U.vr.n:Int):=by omega
  have hkx:k<N.vrfs.length:=by omega
  obtain ⟨g,cur,hg,hB,hrow⟩:=CK.out.own.vr.row (by omega);obtain ⟨o0,ho0⟩:∃o0:Nat,o0=0:=⟨0,rfl⟩;have OO:=hid ho0;have HG:=hid hg;have HKX:=hid hkx;rw [hg,show (⟨g,0,none⟩:Addr)=⟨g,o0,none⟩ by rw [ho0]] at a_;clear hg hB hrow cur hlen ho0;go_wp2_with fail;obtain ⟨W0,hW0⟩:∃W0,wr.drew=W0:=⟨_,rfl⟩;have D0:=hid (show CpS F S w N U W0 from hW0▸CK.out.up ((Below.refl _ _).drew));obtain ⟨us,hus,hcl⟩:=D0.out.own.vr.at_ g HG.out k HKX.out VrfV.zero
  obtain ⟨t,t',rfl,l,l'⟩:=hus;have TY:=hid l;have xlen:=l.len;have xl:=l.le;have xc:=l.cap
  have xsz:(N.vrfs.getD k VrfV.zero).imports.length≤100:=by have:=SZ.out.ivr k (by omega);omega
  have HX:=hid hW0;clear hW0;obtain ⟨s',W2,hrun,LS,hb2⟩:=run_il (P:=Tryz.prog) (w:=W0) 34 34 3 Tryz.underlying34 (Desc.of (by kernel_rfl)) (.inl rfl) t (N.vrfs.getD k VrfV.zero).imports TY.out (fun b hb=>hb.1) (by omega);have LQ:=LS.keep (F':=InB W2 w.heap.size F) (fun _ _=>rfl) (fun b hb=>⟨hb.2.lt,.inr ⟨Nat.le_trans D0.out.bel.size hb.1,hb.2⟩⟩);have D2:=hid (D0.out.up hb2)
  have D3:=hid (D2.out.pvrf HF.out k HKX.out g HG.out 3 (by decide) (.slice s'.A s'.n s'.c) (by
   rintro us ⟨t2,t'2,rfl,l2,l'2⟩
   exact ⟨s',t'2,rfl,LQ,l'2⟩))
  have gl:g<W0.heap.size:=by obtain ⟨g2,cur,hg2,_,hr2⟩:=D0.out.own.vr.row (by have:=HKX.out;omega);have eg:g2=g:=(by rw [HG.out] at hg2;injection hg2 with e;injection e with e _;exact e.symm);subst eg;rcases Nat.lt_or_ge g2 W0.heap.size with h'|h';exact h';rw [Array.getElem?_eq_none h'] at hr2;cases hr2
  have x0:W0.cell? ⟨g,o0+k * 5+3,none⟩=some (.slice t.A t.n t.c):=by rw [OO.out,Nat.zero_add];exact hcl 3 _ rfl
  have x1:(W0.alloc (.cells #[] 3)).cell? ⟨g,o0+k * 5+3,none⟩=some (.slice t.A t.n t.c):=(((Below.refl W0.heap.size W0).alloc (Nat.le_refl _) _).cell (p:=⟨g,_,none⟩) gl).trans x0;have x2:W2.cell? ⟨g,o0+k * 5+3,none⟩=some (.slice t.A t.n t.c):=(hb2.cell (p:=⟨g,_,none⟩) gl).trans x0
  have f2:W2.frozen? ⟨g,o0+k * 5+3,none⟩=false:=by
   obtain ⟨g2,cur,hg2,_,hr2⟩:=D2.out.own.vr.row (by have:=HKX.out;omega)
   have eg:g2=g:=by rw [HG.out] at hg2;injection hg2 with e;injection e with e _;exact e.symm
   subst eg;simp [World.frozen?,hr2]
  have b0:W0.cell? ⟨w.heap.size+1+1,6,none⟩=some (.slice (some ⟨g,o0,none⟩) U.vr.n U.vr.c):=by have:=D0.out.box.cell 6 (.slice U.vr.A U.vr.n U.vr.c) rfl;rw [HG.out] at this;rw [OO.out];exact this
  have b2:W2.cell? ⟨w.heap.size+1+1,6,none⟩=some (.slice (some ⟨g,o0,none⟩) U.vr.n U.vr.c):=(hb2.cell (p:=⟨w.heap.size+2,6,none⟩) D0.out.box.lt).trans b0;have b1:(W0.alloc (.cells #[] 3)).cell? ⟨w.heap.size+1+1,6,none⟩=some (.slice (some ⟨g,o0,none⟩) U.vr.n U.vr.c):=(((Below.refl W0.heap.size W0).alloc (Nat.le_refl _) _).cell (p:=⟨w.heap.size+2,6,none⟩) D0.out.box.lt).trans b0;obtain ⟨W1,hW1⟩:∃W1,W0.alloc (.cells #[] 3)=W1:=⟨_,rfl⟩
  have ew3:W2.setCell ⟨g,k * 5+3,none⟩ (.slice s'.A s'.n s'.c)=W2.setCell ⟨g,o0+k * 5+3,none⟩ (.slice s'.A s'.n s'.c):=by rw [OO.out,Nat.zero_add]
  rw [ew3] at D3;clear ew3;obtain ⟨W3,hW3⟩:∃W3,W2.setCell ⟨g,o0+k * 5+3,none⟩ (.slice s'.A s'.n s'.c)=W3:=⟨_,rfl⟩;rw [hW1] at hrun x1 b1;rw [hW3] at D3
  have b3:W3.cell? ⟨w.heap.size+1+1,6,none⟩=some (.slice (some ⟨g,o0,none⟩) U.vr.n U.vr.c):=by have:=D3.out.box.cell 6 (.slice U.vr.A U.vr.n U.vr.c) rfl;rw [HG.out] at this;rw [OO.out];exact this
  have H1:=hid hW1;have H3:=hid hW3;have HR:=hid hrun
  have CB:=hid (fun m wx (hx:PhL [W0,W1,W2,W3] m wx)=>hx.all (P:=fun x=>x.cell? ⟨w.heap.size+1+1,6,none⟩=some (.slice (some ⟨g,o0,none⟩) U.vr.n U.vr.c)) (by
   intro x hx;simp only [List.mem_cons,List.not_mem_nil,or_false] at hx
   rcases hx with rfl|rfl|rfl|rfl
   · exact b0
   · exact b1
   · exact b2
   · exact b3))
  have CX:=hid (fun m wx (hx:PhL [W0,W1,W2,W3] m wx) (hm:m≤1)=>hx.upto hm (P:=fun x=>x.cell? ⟨g,o0+k * 5+3,none⟩=some (.slice t.A t.n t.c)) (by
   intro x hx;simp only [List.take,List.mem_cons,List.not_mem_nil,or_false] at hx
   rcases hx with rfl|rfl
   · exact x0
   · exact x1))
  have X2:=hid x2;have F2:=hid f2;clear a_ hcl TY xlen xl xc xsz l l' hb2 gl x0 x1 x2 f2 b0 b1 b2 b3 hW1 hW3 hrun LS LQ;refine vAs (PhL [W0,W1,W2,W3]) [3,10,13] (by kernel_rfl) (by kernel_rfl) (by kernel_rfl) (by rw [HX.out];rfl) ?_
  repeat
   first
    |(refine SeqP.run ?_ 3 (vEk _ _ _ _) rfl (by decide) (fun m hm wx hx=>?_) ?_
      rotate_left
      · have cb:=CB.out m wx hx
        go_simp
        refine StepRun.val ?_;exact hx
      simp only [Act.put,List.setIfInBounds_toArray,List.set_cons_zero,List.set_cons_succ])
    |(refine SeqP.run (.slice t.A t.n t.c) 1 (of_decide_eq_true (by kernel_rfl)) rfl (by decide) (fun m hm wx hx=>?_) ?_
      · have cx:=CX.out m wx hx hm
        go_simp
        refine StepRun.val ?_;exact hx
      simp only [Act.put,List.setIfInBounds_toArray,List.set_cons_zero,List.set_cons_succ])
    |(refine SeqP.make (.slice (some ⟨W0.heap.size,0,none⟩) 0 0) 0 rfl rfl (fun wx hx=>?_) ?_
      · obtain rfl:W0=wx:=Option.some.inj hx
        go_simp
        exact ⟨rfl,by rw [H1.out];rfl⟩
      simp only [Act.put,List.setIfInBounds_toArray,List.set_cons_zero,List.set_cons_succ])
    |(refine SeqP.make (.slice s'.A s'.n s'.c) 1 rfl rfl (fun wx hx=>?_) ?_
      · obtain rfl:W1=wx:=Option.some.inj hx
        rw [vDo (t:=34) rfl rfl rfl HR.out];exact ⟨rfl,rfl⟩
      simp only [Act.put,List.setIfInBounds_toArray,List.set_cons_zero,List.set_cons_succ])
    |(refine SeqP.make undef 2 rfl rfl (fun wx hx=>?_) ?_
      · obtain rfl:W2=wx:=Option.some.inj hx
        have cx:=X2.out;have ff:=F2.out
        go_simp
        exact ⟨rfl,by rw [H3.out];rfl⟩
      simp only [Act.put])
  refine SeqP.last rfl (fun w9 h9=>?_);obtain rfl:W3=w9:=Option.some.inj h9;clear CK;have CK:=hid D3.out;clear D0 D2 D3 HX H1 H3 HR CB CX X2 F2;have a_:=CK.out.box.cell 0 (.slice U.dv.A U.dv.n U.dv.c) rfl;go_wp2_with fail;obtain ⟨W0,hW0⟩:∃W0,W3.drew=W0:=⟨_,rfl⟩;have D0:=hid (show CpS F S w N U W0 from hW0▸CK.out.up ((Below.refl _ _).drew));obtain ⟨us,hus,hcl⟩:=D0.out.own.vr.at_ g HG.out k HKX.out VrfV.zero
  obtain ⟨t,t',rfl,l,l'⟩:=hus;have TY:=hid l';have xlen:=l'.len;have xl:=l'.le;have xc:=l'.cap
  have xsz:(N.vrfs.getD k VrfV.zero).exports.length≤100:=by have:=SZ.out.ivr k (by omega);omega
  have HX:=hid hW0;clear hW0;obtain ⟨s',W2,hrun,LS,hb2⟩:=run_il (P:=Tryz.prog) (w:=W0) 34 34 3 Tryz.underlying34 (Desc.of (by kernel_rfl)) (.inl rfl) t' (N.vrfs.getD k VrfV.zero).exports TY.out (fun b hb=>hb.1) (by omega);have LQ:=LS.keep (F':=InB W2 w.heap.size F) (fun _ _=>rfl) (fun b hb=>⟨hb.2.lt,.inr ⟨Nat.le_trans D0.out.bel.size hb.1,hb.2⟩⟩);have D2:=hid (D0.out.up hb2)
  have D3:=hid (D2.out.pvrf HF.out k HKX.out g HG.out 4 (by decide) (.slice s'.A s'.n s'.c) (by
   rintro us ⟨t2,t'2,rfl,l2,l'2⟩
   exact ⟨t2,s',rfl,l2,LQ⟩))
  have gl:g<W0.heap.size:=by obtain ⟨g2,cur,hg2,_,hr2⟩:=D0.out.own.vr.row (by have:=HKX.out;omega);have eg:g2=g:=(by rw [HG.out] at hg2;injection hg2 with e;injection e with e _;exact e.symm);subst eg;rcases Nat.lt_or_ge g2 W0.heap.size with h'|h';exact h';rw [Array.getElem?_eq_none h'] at hr2;cases hr2
  have x0:W0.cell? ⟨g,o0+k * 5+4,none⟩=some (.slice t'.A t'.n t'.c):=by rw [OO.out,Nat.zero_add];exact hcl 4 _ rfl
  have x1:(W0.alloc (.cells #[] 3)).cell? ⟨g,o0+k * 5+4,none⟩=some (.slice t'.A t'.n t'.c):=(((Below.refl W0.heap.size W0).alloc (Nat.le_refl _) _).cell (p:=⟨g,_,none⟩) gl).trans x0;have x2:W2.cell? ⟨g,o0+k * 5+4,none⟩=some (.slice t'.A t'.n t'.c):=(hb2.cell (p:=⟨g,_,none⟩) gl).trans x0
  have f2:W2.frozen? ⟨g,o0+k * 5+4,none⟩=false:=by
   obtain ⟨g2,cur,hg2,_,hr2⟩:=D2.out.own.vr.row (by have:=HKX.out;omega)
   have eg:g2=g:=by rw [HG.out] at hg2;injection hg2 with e;injection e with e _;exact e.symm
   subst eg;simp [World.frozen?,hr2]
  have b0:W0.cell? ⟨w.heap.size+1+1,6,none⟩=some (.slice (some ⟨g,o0,none⟩) U.vr.n U.vr.c):=by have:=D0.out.box.cell 6 (.slice U.vr.A U.vr.n U.vr.c) rfl;rw [HG.out] at this;rw [OO.out];exact this
  have b2:W2.cell? ⟨w.heap.size+1+1,6,none⟩=some (.slice (some ⟨g,o0,none⟩) U.vr.n U.vr.c):=(hb2.cell (p:=⟨w.heap.size+2,6,none⟩) D0.out.box.lt).trans b0;have b1:(W0.alloc (.cells #[] 3)).cell? ⟨w.heap.size+1+1,6,none⟩=some (.slice (some ⟨g,o0,none⟩) U.vr.n U.vr.c):=(((Below.refl W0.heap.size W0).alloc (Nat.le_refl _) _).cell (p:=⟨w.heap.size+2,6,none⟩) D0.out.box.lt).trans b0;obtain ⟨W1,hW1⟩:∃W1,W0.alloc (.cells #[] 3)=W1:=⟨_,rfl⟩
  have ew3:W2.setCell ⟨g,k * 5+4,none⟩ (.slice s'.A s'.n s'.c)=W2.setCell ⟨g,o0+k * 5+4,none⟩ (.slice s'.A s'.n s'.c):=by rw [OO.out,Nat.zero_add]
  rw [ew3] at D3;clear ew3;obtain ⟨W3,hW3⟩:∃W3,W2.setCell ⟨g,o0+k * 5+4,none⟩ (.slice s'.A s'.n s'.c)=W3:=⟨_,rfl⟩;rw [hW1] at hrun x1 b1;rw [hW3] at D3
  have b3:W3.cell? ⟨w.heap.size+1+1,6,none⟩=some (.slice (some ⟨g,o0,none⟩) U.vr.n U.vr.c):=by have:=D3.out.box.cell 6 (.slice U.vr.A U.vr.n U.vr.c) rfl;rw [HG.out] at this;rw [OO.out];exact this
  have H1:=hid hW1;have H3:=hid hW3;have HR:=hid hrun
  have CB:=hid (fun m wx (hx:PhL [W0,W1,W2,W3] m wx)=>hx.all (P:=fun x=>x.cell? ⟨w.heap.size+1+1,6,none⟩=some (.slice (some ⟨g,o0,none⟩) U.vr.n U.vr.c)) (by
   intro x hx;simp only [List.mem_cons,List.not_mem_nil,or_false] at hx
   rcases hx with rfl|rfl|rfl|rfl
   · exact b0
   · exact b1
   · exact b2
   · exact b3))
  have CX:=hid (fun m wx (hx:PhL [W0,W1,W2,W3] m wx) (hm:m≤1)=>hx.upto hm (P:=fun x=>x.cell? ⟨g,o0+k * 5+4,none⟩=some (.slice t'.A t'.n t'.c)) (by
   intro x hx;simp only [List.take,List.mem_cons,List.not_mem_nil,or_false] at hx
   rcases hx with rfl|rfl
   · exact x0
   · exact x1))
  have X2:=hid x2;have F2:=hid f2;clear a_ hcl TY xlen xl xc xsz l l' hb2 gl x0 x1 x2 f2 b0 b1 b2 b3 hW1 hW3 hrun LS LQ;refine vAs (PhL [W0,W1,W2,W3]) [3,10,13] (by kernel_rfl) (by kernel_rfl) (by kernel_rfl) (by rw [HX.out];rfl) ?_
  repeat
   first
    |(refine SeqP.run ?_ 3 (vEk _ _ _ _) rfl (by decide) (fun m hm wx hx=>?_) ?_
      rotate_left
      · have cb:=CB.out m wx hx
        go_simp
        refine StepRun.val ?_;exact hx
      simp only [Act.put,List.setIfInBounds_toArray,List.set_cons_zero,List.set_cons_succ])
    |(refine SeqP.run (.slice t'.A t'.n t'.c) 1 (of_decide_eq_true (by kernel_rfl)) rfl (by decide) (fun m hm wx hx=>?_) ?_
      · have cx:=CX.out m wx hx hm
        go_simp
        refine StepRun.val ?_;exact hx
      simp only [Act.put,List.setIfInBounds_toArray,List.set_cons_zero,List.set_cons_succ])
    |(refine SeqP.make (.slice (some ⟨W0.heap.size,0,none⟩) 0 0) 0 rfl rfl (fun wx hx=>?_) ?_
      · obtain rfl:W0=wx:=Option.some.inj hx
        go_simp
        exact ⟨rfl,by rw [H1.out];rfl⟩
      simp only [Act.put,List.setIfInBounds_toArray,List.set_cons_zero,List.set_cons_succ])
    |(refine SeqP.make (.slice s'.A s'.n s'.c) 1 rfl rfl (fun wx hx=>?_) ?_
      · obtain rfl:W1=wx:=Option.some.inj hx
        rw [vDo (t:=34) rfl rfl rfl HR.out];exact ⟨rfl,rfl⟩
      simp only [Act.put,List.setIfInBounds_toArray,List.set_cons_zero,List.set_cons_succ])
    |(refine SeqP.make undef 2 rfl rfl (fun wx hx=>?_) ?_
      · obtain rfl:W2=wx:=Option.some.inj hx
        have cx:=X2.out;have ff:=F2.out
        go_simp
        exact ⟨rfl,by rw [H3.out];rfl⟩
      simp only [Act.put])
  refine SeqP.last rfl (fun w9 h9=>?_);obtain rfl:W3=w9:=Option.some.inj h9;clear CK;have CK:=hid D3.out;clear D0 D2 D3 HX H1 H3 HR CB CX X2 F2;go_wp2
  go_roundw
  case rel=>exact ⟨k+1,by simp,by omega,CK.out⟩
  case measure=>simp only [];omega
 case rest=>
 rename World=>wL3;have E3:=hid hcut;clear hcut E2;have t0:=E3.out.box.cell 0 (.slice U.dv.A U.dv.n U.dv.c) rfl;have r0:=E3.out.res.cell 0 (.slice none 0 0) rfl;have f0:=E3.out.res.live 0;have t1:=E3.out.box.cell 1 (.slice U.pt.A U.pt.n U.pt.c) rfl;have r1:=E3.out.res.cell 1 (.slice none 0 0) rfl;have f1:=E3.out.res.live 1;have t2:=E3.out.box.cell 2 (.slice U.lk.A U.lk.n U.lk.c) rfl;have r2:=E3.out.res.cell 2 (.slice none 0 0) rfl
 have f2:=E3.out.res.live 2;have t3:=E3.out.box.cell 3 (.slice U.dm.A U.dm.n U.dm.c) rfl;have r3:=E3.out.res.cell 3 (.slice none 0 0) rfl;have f3:=E3.out.res.live 3;have t4:=E3.out.box.cell 4 (.slice U.st.A U.st.n U.st.c) rfl;have r4:=E3.out.res.cell 4 (.slice none 0 0) rfl;have f4:=E3.out.res.live 4;have t5:=E3.out.box.cell 5 (.slice U.fl.A U.fl.n U.fl.c) rfl;have r5:=E3.out.res.cell 5 (.slice none 0 0) rfl
 have f5:=E3.out.res.live 5;have t6:=E3.out.box.cell 6 (.slice U.vr.A U.vr.n U.vr.c) rfl;have r6:=E3.out.res.cell 6 (.slice none 0 0) rfl;have f6:=E3.out.res.live 6;have t7:=E3.out.box.cell 7 (.slice U.ir.A U.ir.n U.ir.c) rfl;have r7:=E3.out.res.cell 7 (.slice none 0 0) rfl;have f7:=E3.out.res.live 7;have rl:=E3.out.res.lt;have OWN:=hid E3.out;go_wp2;refine bodyPost_ret (res_rcopy _ (st8 wL3 (w.heap.size+1) U) U (w.heap.size+1) rfl (OWN.out.res.st8 U)) rfl ?_
 exact ⟨U,rfl,OWN.out.own.box (OWN.out.res.chg8 (by omega) U) vEi HF.out,Below.st8 OWN.out.bel (by omega) U⟩
end Go.Proofs.YtgmflecelnefcaaGreat
