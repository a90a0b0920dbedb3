import Derived.Test.YtkpbbfehglihlaaGreatDoorDs26
import Derived.Test.YtkpbbfehglihlaaGreatDoorDs27
import Derived.Test.YtkpbbfehglihlaaGreatDoorDs30
import Derived.Test.YtkpbbfehglihlaaGreatDoorDs20
import Derived.Test.YtkpbbfehglihlaaGreatDoorDs12
import Derived.Test.YtkpbbfehglihlaaGreatDoorDs15
import Derived.OwnWalk
import Derived.WalkSpells
set_option maxRecDepth 100000
set_option maxHeartbeats 40000000
namespace Go.Proofs.YtkpbbfehglihlaaGreatDoor.Mac
open Go.Lib (hid)
open Go.RowKit
theorem val_text (m:Int) (h0:0≤m) (h1:m<281474976710656):val (strOf (textPre m 6)) 6=m:=by
 have hd:=fun k:Nat=>dg_hx (byt m k / 16) (by have:=vFb m k;omega) (by have:=vFr m k;omega)
 have hm:=fun k:Nat=>dg_hx (byt m k % 16) (by have:=vFb m k;omega) (by have:=vFr m k;omega)
 have get:=fun i (hi:i<17)=>sb_strOf (textPre m 6) i (textPre_bd m) (by rw [textPre_17];exact hi)
 rw [val_six,get 0 (by omega),get 1 (by omega),get 3 (by omega),get 4 (by omega),get 6 (by omega),get 7 (by omega),get 9 (by omega),get 10 (by omega),get 12 (by omega),get 13 (by omega),get 15 (by omega),get 16 (by omega),vDw];simp only [List.getD_cons_zero,List.getD_cons_succ,hd,hm];unfold byt;simp only [Nat.reduceSub,Int.reducePow];omega
end Go.Proofs.YtkpbbfehglihlaaGreatDoor.Mac
namespace Go.Proofs.YtkpbbfehglihlaaGreatDoor
open Go.Lib (hid)
open Go.RowKit
open Go.Lib (itoa)
theorem wm_len (m:Int):(wmS m).length=17:=by unfold wmS;rw [List.length_map,Mac.textPre_17]
theorem wm_back {m:Int} (h0:0≤m) (h1:m<281474976710656):mcB (wmS m)=true∧mcV (wmS m)=m:=by
 have hb:mcB (wmS m)=true:=Mac.rdB_text m;refine ⟨hb,?_⟩;have e:mcV (wmS m)=Mac.rdV (Mac.strOf (Mac.textPre m 6)):=rfl;rw [e,Mac.rdV,if_pos (Mac.rdB_text m),Mac.val_text m h0 h1]
theorem wn_back {n lo hi:Int} (h0:lo≤n) (h1:n≤hi) (hs:n.natAbs<10000000000):nB (wnS n) lo hi=true∧nV (wnS n) lo hi=n:=nB_of (by have:=nF_back n lo hi hs;rw [if_pos ⟨h0,h1⟩] at this;exact this)
theorem wE_num {c:UInt8} {n lo hi:Int} (e:wdE c (wnS n)=if nB (wnS n) lo hi=true then 0 else 21) (h0:lo≤n) (h1:n≤hi) (hs:n.natAbs<10000000000):wdE c (wnS n)=0:=by rw [e,if_pos (wn_back h0 h1 hs).1]
theorem wE_Ms (s:List UInt8) (a:mcB s=true) (b:stB (mcV s)=true):wdE 77 s=0:=wdE_num (c:=77) (b:=mcB s && stB (mcV s)) rfl (by rw [a,b];rfl)
theorem wE_M {m:Int} (h:McOk m):wdE 77 (wmS m)=0:=by
 have b:=wm_back h.1 h.2.1;exact wE_Ms _ b.1 (by rw [b.2];exact h.2.2)
theorem may0_of {s:List UInt8} (h:vCq 0 {WV.zero with text:=s}=true):nmB s=true:=by rw [vBb rfl] at h;exact h
theorem may_num_of {w:Nat} {lo hi x:Int} (ho:optB w=false) (hw:mayW w {WV.zero with n:=x}=(decide (lo≤x) && decide (x≤hi))) (h:vCq w {WV.zero with n:=x}=true):lo≤x∧x≤hi:=by
 rw [vBb ho,hw,Bool.and_eq_true,decide_eq_true_eq,decide_eq_true_eq] at h;exact h
theorem may7_of {m:Int} (h:vCq 7 {WV.zero with mac:=m}=true) (h0:0≤m):McOk m:=by
 rw [vBb rfl] at h;have h2:loneB m=true:=h;unfold loneB at h2;rw [Bool.and_eq_true,decide_eq_true_eq] at h2;exact ⟨h0,by omega,by unfold stB;rw [Bool.and_comm];exact h2.2⟩
theorem rg_of {w f:Nat} {ps:List (Nat×Nat)} {L M:LV} (h:vCp ((w,f) :: ps) L=some M):vCq w (vBl f L WV.zero)=true∧vCp ps (vCo f L WV.zero)=some M:=by
 rw [vCp] at h
 by_cases g:vCq w (vBl f L WV.zero)=true
 · rw [if_pos g] at h;exact ⟨g,h⟩
 · rw [if_neg g] at h;cases h
noncomputable def rrB (L:LV):Bool:=(decide (L.tagged.length≤16) && (decide (L.imports.length≤16) && (decide (L.exports.length≤16) && decide (L.addrs.length≤16)))) && (decide (rdE (wrW L) L.row=0) && vFf L (rdL (wrW L) L.row))
theorem getD_app {α:Type} (xs ys:List α) (i:Nat) (d:α):(xs++ys).getD i d=if i<xs.length then xs.getD i d else ys.getD (i - xs.length) d:=by
 by_cases h:i<xs.length
 · rw [if_pos h];simp [List.getD,List.getElem?_append_left h]
 · rw [if_neg h];simp [List.getD,List.getElem?_append_right (Nat.le_of_not_lt h)]
theorem getD_old {α:Type} {xs ys:List α} {i:Nat} {d:α} (h:i<xs.length):(xs++ys).getD i d=xs.getD i d:=by rw [getD_app,if_pos h]
theorem getD_new {α:Type} {xs ys:List α} {j:Nat} {d:α}:(xs++ys).getD (xs.length+j) d=ys.getD j d:=by rw [getD_app,if_neg (by omega),Nat.add_sub_cancel_left]
theorem atK_cases (dev v:Int):∀(xs:List DomV) (k:Nat),atK xs dev v k= -1∨(k:Int)≤atK xs dev v k
 | [],k=>.inl rfl
 |d :: r,k=>by
  unfold atK
  by_cases c:d.dev=dev∧d.vlan=v
  · rw [if_pos c];exact .inr (Int.le_refl _)
  · rw [if_neg c]
    rcases atK_cases dev v r (k+1) with h|h
    · exact .inl h
    · exact .inr (by omega)
theorem atF_cases (N:NV) (dev v:Int):atF N dev v= -1∨0≤atF N dev v:=atK_cases dev v N.domains 0
theorem atF_lt {N:NV} {dev v:Int} (h:0≤atF N dev v):∃j,j<N.domains.length∧atF N dev v=(j:Int)∧(N.domains.getD j DomV.zero).dev=dev∧(N.domains.getD j DomV.zero).vlan=v:=by
 obtain ⟨j,h1,h2,h3,h4⟩:=atK_place dev v N.domains 0 h;exact ⟨j,h1,by unfold atF;rw [h2];congr 1;omega,h3,h4⟩
noncomputable def vFe (N:NV) (L:LV) (k:Int):Bool:=decide (L.kind=k) && (rgB L && netB N)
theorem vHa {N:NV} {L:LV} {k:Int}:vFe N L k=true↔L.kind=k∧rgB L=true∧NetOk N:=by
 unfold vFe;rw [Bool.and_eq_true,Bool.and_eq_true,decide_eq_true_eq,netB_iff]
theorem dv_none {N:NV} {s:List UInt8} (h:dvF N s<0):∀i,i<N.devices.length→(N.devices.getD i DevV.zero).name≠s:=by
 rcases dvK_fst s N.devices 0 _ rfl with ⟨j,h1,h2,_⟩|⟨_,h2⟩
 · unfold dvF at h;rw [h2] at h;omega
 · exact h2
theorem dv_neg {N:NV} {s:List UInt8} (h:dvF N s<0):dvF N s= -1:=by
 rcases dvK_fst s N.devices 0 _ rfl with ⟨j,h1,h2,_⟩|⟨h1,_⟩
 · unfold dvF at h;rw [h2] at h;omega
 · exact h1
def ndF (N:NV) (dev port:List UInt8):Int:=ptF N (dvF N dev) port
theorem nd_place {N:NV} {dev:Int} {s:List UInt8}:ptF N dev s= -1∨∃j,j<N.ports.length∧ptF N dev s=(j:Int)∧(N.ports.getD j PortV.zero).dev=dev∧(N.ports.getD j PortV.zero).name=s:=by
 rcases ptF_fst N dev s _ rfl with ⟨j,h1,h2,h3,_⟩|⟨h,_⟩
 · have:=of_decide_eq_true h3
   exact .inr ⟨j,h1,h2,this.1,this.2⟩
 · exact .inl h
theorem pt_nodev {N:NV} (h:NetOk N) (s:List UInt8):ptF N (-1) s= -1:=by
 rcases nd_place (N:=N) (dev:= -1) (s:=s) with e|⟨j,h1,_,h3,_⟩
 · exact e
 · have:=(vAw _ _).1 (h.pt j h1).dev
   omega
def stK:List StatV→Int→Int→Int
 | [],_,_=> -1
 |s :: r,d,m=>if s.dom=d∧s.mac=m then s.port else stK r d m
def lkF (N:NV) (d m:Int):Int:=stK N.statics d m
noncomputable def lkX (N:NV) (d m:Int):Int:=if netB N=true then lkF N d m else -1
theorem lkX_ok {N:NV} (h:NetOk N) (d m:Int):lkX N d m=lkF N d m:=by unfold lkX;rw [if_pos (vEb h)]
theorem stK_at {xs:List StatV} {k:Nat} (h:k<xs.length) (d m:Int):stK (xs.drop k) d m=if (xs.getD k StatV.zero).dom=d∧(xs.getD k StatV.zero).mac=m then (xs.getD k StatV.zero).port else stK (xs.drop (k+1)) d m:=by
 have e1:xs.drop k=xs.getD k StatV.zero :: xs.drop (k+1):=by rw [List.drop_eq_getElem_cons h];simp [List.getD,List.getElem?_eq_getElem h]
 rw [e1]
 rfl
theorem stK_cases (d m:Int):∀(xs:List StatV),stK xs d m= -1∨∃j,j<xs.length∧stK xs d m=(xs.getD j StatV.zero).port
 | []=>.inl rfl
 |s :: r=>by
  unfold stK
  by_cases c:s.dom=d∧s.mac=m
  · rw [if_pos c];exact .inr ⟨0,by simp,by simp⟩
  · rw [if_neg c]
    rcases stK_cases d m r with h|⟨j,h1,h2⟩
    · exact .inl h
    · exact .inr ⟨j+1,by simpa using h1,by simpa using h2⟩
theorem lk_place {N:NV} (h:NetOk N) (d m:Int):lkF N d m= -1∨∃x:Nat,x<N.ports.length∧lkF N d m=(x:Int):=by
 rcases stK_cases d m N.statics with e|⟨j,h1,h2⟩
 · exact .inl e
 · obtain ⟨x,hx,hl⟩:=plB_nat (h.rs.st j h1).port
   exact .inr ⟨x,hl,by show stK _ _ _=_;rw [h2,hx]⟩
def vCu (N:NV) (row:Int) (d p:Nat) (m:Int):NV:={N with statics:=N.statics++[⟨row,d,p,m⟩]}
theorem ws_len (N:NV) (row:Int) (d p:Nat) (m:Int):(vCu N row d p m).statics.length=N.statics.length+1:=by
 show (N.statics++[_]).length=_
 simp
theorem ws_old (N:NV) (row:Int) (d p:Nat) (m:Int) {j:Nat} (h:j<N.statics.length):(vCu N row d p m).statics.getD j StatV.zero=N.statics.getD j StatV.zero:=getD_old h
theorem ws_new (N:NV) (row:Int) (d p:Nat) (m:Int):(vCu N row d p m).statics.getD N.statics.length StatV.zero=⟨row,d,p,m⟩:=by
 show (N.statics++[_]).getD _ _=_
 have:=getD_new (xs:=N.statics) (ys:=[(⟨row,d,p,m⟩:StatV)]) (j:=0) (d:=StatV.zero)
 rw [Nat.add_zero] at this;rw [this]
 rfl
theorem withStat_ok {N:NV} (row:Int) {d p:Nat} (m:Int) (h:NetOk N) (hd:d<N.domains.length) (hp:p<N.ports.length) (he:(N.ports.getD p PortV.zero).dev=(N.domains.getD d DomV.zero).dev) (hm:vIk (N.ports.getD p PortV.zero) (N.domains.getD d DomV.zero).vlan=true) (z:N.statics.length<64):NetOk (vCu N row d p m):=by
 have W:=ws_len N row d p m;refine ⟨h.zdv,h.zpt,h.zlk,h.zdm,by rw [W];omega,h.zfl,h.zvr,h.zir,⟨fun i hi=>?_,fun i hi=>h.dm.2 i hi⟩,fun i hi=>?_,fun i hi=>?_,⟨fun i hi=>?_,fun i hi=>?_,fun i hi=>?_,fun i hi=>?_⟩⟩
 · have g:=h.dm.1 i hi
   exact ⟨g.dev,g.vlan,g.vni,g.one,g.irb⟩
 · have g:=h.pt i hi
   exact ⟨g.dev,g.lo,g.hi,g.tag,g.out,g.one,g.dom,g.doms,g.link⟩
 · have g:=h.lk i hi
   exact ⟨g.a,g.b,g.dev,g.la,g.lb⟩
 · rw [W] at hi
   by_cases ho:i<N.statics.length
   · rw [ws_old N row d p m ho]
     have g:=h.rs.st i ho;exact ⟨g.dom,g.port,g.dev,g.mbr⟩
   · obtain rfl:i=N.statics.length:=by omega
     rw [ws_new];exact ⟨(vAw _ _).2 ⟨by show (0:Int)≤(d:Int);omega,by show (d:Int)<(N.domains.length:Int);omega⟩,(vAw _ _).2 ⟨by show (0:Int)≤(p:Int);omega,by show (p:Int)<(N.ports.length:Int);omega⟩,he,hm⟩
 · have g:=h.rs.fl i hi
   exact ⟨g.dev,g.most⟩
 · have g:=h.rs.vr i hi
   exact ⟨g.dev,g.imp,g.exp⟩
 · have g:=h.rs.ir i hi
   exact ⟨g.dom,g.vrf,g.bits,g.dev,g.irb⟩
def doR (N:NV) (dm pt v m:Int):Int:=if pt= -1 then 31 else if dm= -1∨vIk (ptA N pt) v=false then 32 else if lkF N dm m≠-1 then 30 else if 64≤N.statics.length then 3 else 0
noncomputable def doE (N:NV) (L:LV):Int:=if vFe N L 4=false then 2 else doR N (atF N (dvF N L.dev) L.vlan) (ndF N L.dev L.port) L.vlan L.mac
noncomputable def doN (N:NV) (L:LV):NV:=if doE N L=0 then vCu N L.row (atF N (dvF N L.dev) L.vlan).toNat (ndF N L.dev L.port).toNat L.mac else NV.zero
theorem do_no {N:NV} {L:LV} (h:doE N L≠0):doN N L=NV.zero:=by unfold doN;rw [if_neg h]
theorem do_2 {N:NV} {L:LV} (h:vFe N L 4=false):doN N L=NV.zero∧doE N L=2:=by
 have e:doE N L=2:=by unfold doE;rw [if_pos h]
 exact ⟨do_no (by rw [e];decide),e⟩
theorem do_r {N:NV} {L:LV} (h:vFe N L 4=true):doE N L=doR N (atF N (dvF N L.dev) L.vlan) (ndF N L.dev L.port) L.vlan L.mac:=by unfold doE;rw [if_neg (by rw [h];decide)]
theorem do_e {N:NV} {L:LV} (h:vFe N L 4=true) {e:Int} (h2:doR N (atF N (dvF N L.dev) L.vlan) (ndF N L.dev L.port) L.vlan L.mac=e) (h0:e≠0):doN N L=NV.zero∧doE N L=e:=by
 have g:=(do_r h).trans h2;exact ⟨do_no (by rw [g];exact h0),g⟩
theorem do_0 {N:NV} {L:LV} (h:vFe N L 4=true) (h2:doR N (atF N (dvF N L.dev) L.vlan) (ndF N L.dev L.port) L.vlan L.mac=0):doN N L=vCu N L.row (atF N (dvF N L.dev) L.vlan).toNat (ndF N L.dev L.port).toNat L.mac∧doE N L=0:=by
 have g:=(do_r h).trans h2;exact ⟨by unfold doN;rw [if_pos g],g⟩
theorem at_place (N:NV) (dev v:Int):atF N dev v= -1∨∃j,j<N.domains.length∧atF N dev v=(j:Int)∧(N.domains.getD j DomV.zero).dev=dev∧(N.domains.getD j DomV.zero).vlan=v:=by
 rcases atF_cases N dev v with h|h
 · exact .inl h
 · exact .inr (atF_lt h)
theorem do_r0 {N:NV} {dm pt v m:Int} (r:doR N dm pt v m=0):pt≠-1∧dm≠-1∧vIk (ptA N pt) v=true∧lkF N dm m= -1∧N.statics.length<64:=by
 unfold doR at r
 by_cases c1:pt= -1
 · rw [if_pos c1] at r;exact absurd r (by decide)
 rw [if_neg c1] at r
 by_cases c2:dm= -1∨vIk (ptA N pt) v=false
 · rw [if_pos c2] at r;exact absurd r (by decide)
 rw [if_neg c2] at r
 by_cases c3:lkF N dm m≠-1
 · rw [if_pos c3] at r;exact absurd r (by decide)
 rw [if_neg c3] at r
 by_cases c4:64≤N.statics.length
 · rw [if_pos c4] at r;exact absurd r (by decide)
 exact ⟨c1,fun e=>c2 (.inl e),by cases g:vIk (ptA N pt) v with
  |true=>rfl
  |false=>exact absurd (.inr g) c2,Classical.byContradiction fun e=>c3 e,by omega⟩
theorem do_inv {N:NV} {L:LV} (h:doE N L=0):vFe N L 4=true∧NetOk N∧∃d p:Nat,atF N (dvF N L.dev) L.vlan=(d:Int)∧ndF N L.dev L.port=(p:Int)∧d<N.domains.length∧p<N.ports.length∧(N.ports.getD p PortV.zero).dev=(N.domains.getD d DomV.zero).dev∧(N.domains.getD d DomV.zero).vlan=L.vlan∧(N.ports.getD p PortV.zero).name=L.port∧vIk (N.ports.getD p PortV.zero) L.vlan=true∧lkF N (d:Int) L.mac= -1∧N.statics.length<64∧doN N L=vCu N L.row d p L.mac:=by
 by_cases f:vFe N L 4=true
 rotate_left
 · rw [(do_2 (Bool.eq_false_iff.2 f)).2] at h;exact absurd h (by decide)
 obtain ⟨c1,c2,c3,c4,c5⟩:=do_r0 ((do_r f).symm.trans h);obtain ⟨p,hp,ep,ed,en⟩:=(nd_place (N:=N) (dev:=dvF N L.dev) (s:=L.port)).resolve_left c1;obtain ⟨d,hd,ea,eb,ev⟩:=(at_place N (dvF N L.dev) L.vlan).resolve_left c2;have ep:ndF N L.dev L.port=(p:Int):=ep;rw [ep] at c3;rw [ea] at c4;exact ⟨f,(vHa.1 f).2.2,d,p,ea,ep,hd,hp,by rw [ed,eb],ev,en,c3,c4,c5,by unfold doN;rw [if_pos h,ea,ep];rfl⟩
theorem ws_sz {N:NV} (row:Int) (d p:Nat) (m:Int) (h:NvSz N) (z:N.statics.length<64):NvSz (vCu N row d p m):=
 ⟨h.zdv,h.zpt,h.zlk,h.zdm,by rw [ws_len];omega,h.zfl,h.zvr,h.zir,h.ipt,h.idm,h.ifl,h.ivr⟩
theorem mm_range {N:NV} {d x:Int} (h:x∈mmL N d):∃k:Nat,k<N.ports.length∧x=(k:Int):=by
 unfold mmL at h
 split at h
 · obtain ⟨k,hk,rfl⟩:=List.mem_map.1 h
   exact ⟨k,by simpa using (List.mem_filter.1 hk).1,rfl⟩
 · cases h
def GotIs (ys:List Int) (w:World) (e:Ending) (w':World):Prop:=∃A n c,e=.returned (.slice A n c)∧RSl (Rdr.int .i64) w' (vAs w') A n c ys∧Below w.heap.size w w'
def hsL (N:NV) (d:Int):List Int:=(mmL N d).filter fun x=>decide ((ptA N x).link= -1)
def tdF (N:NV) (d:Int):List UInt8:=if plB d (N.domains.length:Int)=true then (N.devices.getD (N.domains.getD d.toNat DomV.zero).dev.toNat DevV.zero).name++(47 :: Go.Lib.itoa (N.domains.getD d.toNat DomV.zero).vlan) else []
def NFO (B:Nat) (w:World) (b:Nat):Prop:=B≤b∧b<w.heap.size∧∀o,w.frozen? ⟨b,o,none⟩=false
def NFB (B:Nat) (w:World) (b:Nat):Prop:=B≤b∧b<w.heap.size∧TyI w b
theorem NFB.low {B B':Nat} {w:World} {b:Nat} (h:NFB B w b) (hB:B'≤B):NFB B' w b:=⟨Nat.le_trans hB h.1,h.2⟩
theorem NFB.o {B:Nat} {w:World} {b:Nat} (h:NFB B w b):NFO B w b:=⟨h.1,h.2.1,h.2.2.live⟩
theorem NFB.same {B:Nat} {w w':World} {b:Nat} (h:NFB B w b) (e:w'.heap[b]?=w.heap[b]?):NFB B w' b:=
 ⟨h.1,vHp e h.2.1,h.2.2.same e⟩
def Rdr.nf {α:Type} (R:Rdr α) (B:Nat):Rdr α where
 n:=R.n
 rd:=fun w F vs a=>R.rd w (fun b=>F b∧NFB B w b) vs a
 len:=fun h=>R.len h
 one:=fun h=>R.one h
 keep:=fun h hb hF=>R.keep h (fun b g=>hb b g.1) (fun b g=>⟨hF b g.1,g.2.same (hb b g.1)⟩)
section
variable {α:Type} {R:Rdr α} {w w':World} {B:Nat} {e:TypeId} {A:Option Addr} {n c:Nat} {xs:List α} {F:Nat→Prop}
theorem ROwn.readN (h:ROwn (R.nf B) w B e (.slice A n c) xs):RSl R w (NFO B w) A n c xs:=by
 obtain ⟨vs,h1,h2⟩:=h
 rcases h1.2 with ⟨hv,hn⟩|⟨g,cap,cur,hv,hB,hh,hnc,hm,hs,ht⟩
 · injection hv with e1 e2 e3
   subst e1 e2 e3;exact ⟨hn,Nat.le_refl _,Nat.zero_le _,fun _=>rfl,fun h=>absurd h (by omega)⟩
 · injection hv with e1 e2 e3
   subst e1 e2 e3
   have hg:g<w.heap.size:=by
    rcases Nat.lt_or_ge g w.heap.size with h'|h'
    · exact h'
    · rw [Array.getElem?_eq_none h'] at hh;cases hh
   refine ⟨rfl,hnc,hm,fun e=>(by cases e),fun hn=>⟨g,0,rfl,⟨hB,hg,fun o=>by simp [World.frozen?,hh]⟩,hg,fun j x hx=>?_⟩⟩;obtain ⟨us,g1,g2⟩:=h2.at_ j x hx;refine ⟨us,R.keep g1 (fun _ _=>rfl) (fun b hb=>hb.2.o),fun i v hv=>?_⟩;have hi:=g2 i v hv;rw [←ht] at hi
   have hlt:j * R.n+i<xs.length * R.n:=by
    have:=(List.getElem?_eq_some_iff.1 hi).1
    rw [List.length_take] at this;have e:(R.nf B).n=R.n:=rfl;rw [e] at this;omega
   rw [List.getElem?_take,if_pos (show j * (R.nf B).n+i<xs.length * (R.nf B).n from hlt)] at hi;rw [Nat.zero_add];simp only [World.cell?,hh];simpa [Rdr.nf] using hi
theorem ROwn.readT (h:ROwn (R.nf B) w B e (.slice A n c) xs) (he:e=3∨e=33):RSl R w (NFB B w) A n c xs:=by
 obtain ⟨h1,h2,h3,h4,h5⟩:=h.readN;refine ⟨h1,h2,h3,h4,fun hn=>?_⟩;obtain ⟨b,off,e1,g1,g2,g3⟩:=h5 hn
 have hb:NFB B w b:=by
  obtain ⟨vs,o1,_⟩:=h
  rcases o1.2 with ⟨hv,hn0⟩|⟨g,cap,cur,hv,hB,hh,_⟩
  · injection hv with e2 e3;omega
  · injection hv with e2
    rw [e1] at e2
    injection e2 with e2
    injection e2 with e2 _
    subst e2;exact ⟨hB,g2,cur,e,hh,he⟩
 obtain ⟨vs,o1,o2⟩:=h;refine ⟨b,off,e1,hb,g2,fun j x hx=>?_⟩;obtain ⟨us,k1,k2⟩:=o2.at_ j x hx;obtain ⟨us2,l1,l2⟩:=g3 j x hx
 rcases o1.2 with ⟨hv,hn0⟩|⟨g,cap,cur,hv,hB,hh,hnc,hm,hs,ht⟩
 · injection hv with e2 e3;omega
 · injection hv with e2 e3
   subst e3;rw [e1] at e2
   injection e2 with e2
   injection e2 with e2 e4
   subst e2 e4;refine ⟨us,R.keep k1 (fun _ _=>rfl) (fun b hb=>hb.2),fun i v hv=>?_⟩;have hi:=k2 i v hv;rw [←ht] at hi
   have hlt:j * R.n+i<xs.length * R.n:=by
    have:=(List.getElem?_eq_some_iff.1 hi).1
    rw [List.length_take] at this;have e:(R.nf B).n=R.n:=rfl;rw [e] at this;omega
   rw [List.getElem?_take,if_pos (show j * (R.nf B).n+i<xs.length * (R.nf B).n from hlt)] at hi;rw [Nat.zero_add];simp only [World.cell?,hh];simpa [Rdr.nf] using hi
theorem RdAll.lowN {B':Nat} (hB:B'≤B):∀{xs:List α} {vs:List Value},RdAll (R.nf B) w F vs xs→RdAll (R.nf B') w F vs xs
 | [],_,h=>h
 |_ :: _,_,⟨us,ws,e,h1,h2⟩=>⟨us,ws,e,R.keep h1 (fun _ _=>rfl) (fun _ g=>⟨g.1,g.2.low hB⟩),h2.lowN hB⟩
theorem ROwn.lowN {B':Nat} {v:Value} (h:ROwn (R.nf B) w B e v xs) (hB:B'≤B):ROwn (R.nf B') w B' e v xs:=by
 obtain ⟨vs,h1,h2⟩:=h;refine ⟨vs,⟨h1.1,?_⟩,h2.lowN hB⟩
 rcases h1.2 with h3|⟨g,cap,cur,hv,hg,r⟩
 · exact .inl h3
 · exact .inr ⟨g,cap,cur,hv,Nat.le_trans hB hg,r⟩
theorem RdAll.keepN {F F':Nat→Prop} (hb:∀b,F b→B≤b→w'.heap[b]?=w.heap[b]?) (hF:∀b,F b→F' b):∀{xs:List α} {vs:List Value},RdAll (R.nf B) w F vs xs→RdAll (R.nf B) w' F' vs xs
 | [],_,h=>h
 |_ :: _,_,⟨us,ws,e,h1,h2⟩=>⟨us,ws,e,R.keep h1 (fun b g=>hb b g.1 g.2.1) (fun b g=>⟨hF b g.1,g.2.same (hb b g.1 g.2.1)⟩),h2.keepN hb hF⟩
theorem ROwn.keepN {v:Value} (h:ROwn (R.nf B) w B e v xs) (hb:∀b,B≤b→b<w.heap.size→w'.heap[b]?=w.heap[b]?) (hs:w.heap.size≤w'.heap.size):ROwn (R.nf B) w' B e v xs:=by
 obtain ⟨vs,h1,h2⟩:=h;refine ⟨vs,⟨h1.1,?_⟩,h2.keepN (fun b g hB=>hb b hB g.1) (fun b g=>⟨Nat.lt_of_lt_of_le g.1 hs,g.2⟩)⟩
 rcases h1.2 with h3|⟨g,cap,cur,hv,hB,hh,hnc,hm,hsz,ht⟩
 · exact .inl h3
 · refine .inr ⟨g,cap,cur,hv,hB,?_,hnc,hm,hsz,ht⟩
   rw [hb g hB (by
    rcases Nat.lt_or_ge g w.heap.size with h'|h'
    · exact h'
    · rw [Array.getElem?_eq_none h'] at hh;cases hh)]
   exact hh
theorem RSl.flat (hf:∀w F F' vs a,R.rd w F vs a→R.rd w F' vs a) (h:RSl R w F A n c xs):RSl (R.nf B) w F A n c xs:=
 ⟨h.1,h.2.1,h.2.2.1,h.2.2.2.1,fun hn=>by
   obtain ⟨b,off,e,h1,h2,h3⟩:=h.2.2.2.2 hn
   exact ⟨b,off,e,h1,h2,fun j x hx=>by obtain ⟨vs,g1,g2⟩:=h3 j x hx;exact ⟨vs,hf _ _ _ _ _ g1,g2⟩⟩⟩
end
def Desc (P:Program) (e:TypeId) (n:Nat):Prop:=∃i z,P.info? e=some i∧i.zero=some z∧i.size=n∧i.bytes≤1000∧z.cells.size=n
theorem Desc.of {P:Program} {e:TypeId} {n:Nat} (h:(P.info? e).map (fun i=>(decide (i.bytes≤1000),i.size,i.zero.map (fun z=>z.cells.size)))=some (true,n,some n)):Desc P e n:=by
 cases hi:P.info? e with
 |none=>rw [hi] at h;cases h
 |some i=>
  rw [hi] at h;simp only [Option.map_some,Option.some.injEq,Prod.mk.injEq] at h;obtain ⟨h1,h2,h3⟩:=h
  cases hz:i.zero with
  |none=>rw [hz] at h3;cases h3
  |some z=>
   rw [hz] at h3;exact ⟨i,z,hi,hz,h2,of_decide_eq_true h1,by simpa using h3⟩
theorem vDi {P:Program} {α:Type} (R:Rdr α) {w:World} {ops:Array Oper} {rest:List Oper} {o:Oper} {a:Act} {Q:Exit→Act→World→Prop} (hgd:o.guard=none) (s x:Operand) (t e:TypeId) (ht:P.underlying t=some (.slice e)) (hd:Desc P e R.n) (hR:0<R.n)
 (ho:o.op=.call {callee:=.builtin .append,args:=#[s,x],argTypes:=#[t,t]}) (base:Nat) (v:Value) (xs:List α) (hown:ROwn R w base e v xs)
 (F:Nat→Prop) (A:Option Addr) (m c:Nat) (ys:List α) (hy:RSl R w F A m c ys) (hF:∀b,F b→vEz w v b) (hn:xs.length+m≤100000) (hbase:base≤w.heap.size)
 (hs:a.eval s=v) (hx:a.eval x=.slice A m c)
 (h:∀v' w',ROwn R w' base e v' (xs++ys)→Below base w w'→wpList P ops Q rest (a.put o.dst v') w'):wpList P ops Q (o :: rest) a w:=by
 obtain ⟨i,z,hi,hz,hsize,hb,hzs⟩:=hd;refine vHx R hgd s x t ho base e i z i.bytes ht hi hz hsize rfl hzs hR v xs hown F A m c ys hy hF (by unfold maxLen;omega) ?_ hbase hs hx h;exact Nat.le_trans (Nat.mul_le_mul hn hb) (by decide)
theorem vDy {P:Program} {α:Type} (R:Rdr α) {w0:World} {ops:Array Oper} {rest:List Oper} {o:Oper} {a:Act} {Q:Exit→Act→World→Prop} (hgd:o.guard=none) (s x:Operand) (t e:TypeId) (ht:P.underlying t=some (.slice e)) (hd:Desc P e R.n) (hR:0<R.n)
 (ho:o.op=.call {callee:=.builtin .append,args:=#[s,x],argTypes:=#[t,t]}) (base:Nat) (v:Value) (xs:List α) (hown:ROwn R w0 base e v xs)
 (y:α) (cells:Array Value) (F:Nat→Prop) (hy:R.rd w0 F cells.toList y) (hF:∀b,F b→vEz w0 v b) (hn:xs.length+1≤100000) (hbase:base≤w0.heap.size)
 (hs:a.eval s=v) (hx:a.eval x=.slice (some ⟨w0.heap.size,0,none⟩) 1 1)
 (h:∀v' w',ROwn R w' base e v' (xs++[y])→Below base w0 w'→wpList P ops Q rest (a.put o.dst v') w'):wpList P ops Q (o :: rest) a (w0.alloc (.cells cells e)):=by
 obtain ⟨i,z,hi,hz,hsize,hb,hzs⟩:=hd;refine wpList_rapp R hgd s x t ho base e i z i.bytes ht hi hz hsize rfl hzs hR v xs hown y cells F hy hF w0.heap.size rfl (by unfold maxLen;omega) ?_ hbase hs hx h;exact Nat.le_trans (Nat.mul_le_mul hn hb) (by decide)
def GotR {α:Type} (R:Rdr α) (xs:List α) (w:World) (e:Ending) (w':World):Prop:=∃t:Sl3,e=.returned (.slice t.A t.n t.c)∧RSl R w' (NFB w.heap.size w') t.A t.n t.c xs∧Below w.heap.size w w'
def GotO {α:Type} (R:Rdr α) (T:TypeId) (xs:List α) (w:World) (e:Ending) (w':World):Prop:=∃t:Sl3,e=.returned (.slice t.A t.n t.c)∧ROwn (R.nf w.heap.size) w' w.heap.size T (.slice t.A t.n t.c) xs∧Below w.heap.size w w'
theorem tclone2 (l:List UInt8) (w:World) (hs:l.length≤140737488351232):Calls Tryz.prog 161 #[.string (str l)] w fun e w'=>e=.returned (.string (str l))∧Below w.heap.size w w':=by
 have hz:(str l).size≤281474976710656:=by rw [vBa];omega
 go_enter Tryz.func161,Tryz.ntmps161
 go_wp2_with (go_at_call 179;refine (Tryz.stringslite_Clone (str l) _ hz).mono ?_;rintro e w1 ⟨rfl,hb1⟩);go_ret;exact ⟨rfl,hb1⟩
theorem desc_int:Desc Tryz.prog 3 1:=Desc.of (by kernel_rfl)
theorem cl_int (s:Sl3) (xs:List Int) (w:World) (h:RSl (Rdr.int .i64) w (vAs w) s.A s.n s.c xs) (hz:xs.length≤1000):Calls Tryz.prog 162 #[.slice s.A s.n s.c] w (GotR (Rdr.int .i64) xs w):=by
 obtain ⟨A,n,c⟩:=s;dsimp only at h ⊢;have hlen:=h.len
 rcases A with _|ad
 · have hn0:n=0:=by
    have hc:=h.2.2.2.1 rfl
    have:=h.le
    omega
   subst hn0;obtain rfl:xs=[]:=List.eq_nil_of_length_eq_zero hlen;clear h hlen
   have hq:=fun w=>Lib.run_eql_slice_nil (P:=Tryz.prog) w 34 3 none 0 c 0 0 Tryz.underlying34
   go_enter Tryz.func162,Tryz.ntmps162
   go_wp2;go_ret;exact ⟨Sl3.nil,rfl,RSl.nil,Below.refl _ _⟩
 · have HS:=hid h
   have LN:=hid hlen;have HZ:=hid hz;clear h hlen hz
   have hq:=fun w=>Lib.run_eql_slice_nil (P:=Tryz.prog) w 34 3 (some ad) n c 0 0 Tryz.underlying34
   go_enter Tryz.func162,Tryz.ntmps162
   go_wp2_with (at_builtin;(refine vDi ((Rdr.int .i64).nf w.heap.size) rfl (.tmp 5) (.tmp 6) 34 3 Tryz.underlying34 desc_int (show 0<1 by decide) rfl w.heap.size _ [] (ROwn.lit0 w w.heap.size 3 (Nat.le_refl _)) (vAs w) (some ad) n c xs ?hy ?hF ?h1 ?h2 ?hs ?hx ?_);(case hy=>exact (HS.out.keep (fun b hb=>Below.heap_alloc w _ b hb) (fun _ h=>h)).flat (fun _ _ _ _ _ h=>h));(case hF=>exact fun b hb=>⟨by (have h3:b<w.heap.size:=hb;simp;omega),fun e=>by (have e2:w.heap.size=b:=Option.some.inj e;have h3:b<w.heap.size:=hb;omega)⟩);(case h1=>(have:=LN.out;have:=HZ.out;simp;omega));(case h2=>simp);(case hs=>rfl);(case hx=>rfl);intro v2 w2 o2 b2;obtain ⟨A2,c2,rfl⟩:=o2.shape;have O2:=hid o2;have B2:=hid ((vAc w (.cells #[] 3)).trans b2);clear o2 b2)
   go_ret;exact ⟨⟨A2,_,c2⟩,rfl,O2.out.readT (.inl rfl),B2.out⟩
theorem desc_uint32:Desc Tryz.prog 33 1:=Desc.of (by kernel_rfl)
theorem cl_uint32 (s:Sl3) (xs:List Int) (w:World) (h:RSl (Rdr.int .u32) w (vAs w) s.A s.n s.c xs) (hz:xs.length≤1000):Calls Tryz.prog 163 #[.slice s.A s.n s.c] w (GotR (Rdr.int .u32) xs w):=by
 obtain ⟨A,n,c⟩:=s;dsimp only at h ⊢;have hlen:=h.len
 rcases A with _|ad
 · have hn0:n=0:=by
    have hc:=h.2.2.2.1 rfl
    have:=h.le
    omega
   subst hn0;obtain rfl:xs=[]:=List.eq_nil_of_length_eq_zero hlen;clear h hlen
   have hq:=fun w=>Lib.run_eql_slice_nil (P:=Tryz.prog) w 35 33 none 0 c 0 0 Tryz.underlying35
   go_enter Tryz.func163,Tryz.ntmps163
   go_wp2;go_ret;exact ⟨Sl3.nil,rfl,RSl.nil,Below.refl _ _⟩
 · have HS:=hid h
   have LN:=hid hlen;have HZ:=hid hz;clear h hlen hz
   have hq:=fun w=>Lib.run_eql_slice_nil (P:=Tryz.prog) w 35 33 (some ad) n c 0 0 Tryz.underlying35
   go_enter Tryz.func163,Tryz.ntmps163
   go_wp2_with (at_builtin;(refine vDi ((Rdr.int .u32).nf w.heap.size) rfl (.tmp 5) (.tmp 6) 35 33 Tryz.underlying35 desc_uint32 (show 0<1 by decide) rfl w.heap.size _ [] (ROwn.lit0 w w.heap.size 33 (Nat.le_refl _)) (vAs w) (some ad) n c xs ?hy ?hF ?h1 ?h2 ?hs ?hx ?_);(case hy=>exact (HS.out.keep (fun b hb=>Below.heap_alloc w _ b hb) (fun _ h=>h)).flat (fun _ _ _ _ _ h=>h));(case hF=>exact fun b hb=>⟨by (have h3:b<w.heap.size:=hb;simp;omega),fun e=>by (have e2:w.heap.size=b:=Option.some.inj e;have h3:b<w.heap.size:=hb;omega)⟩);(case h1=>(have:=LN.out;have:=HZ.out;simp;omega));(case h2=>simp);(case hs=>rfl);(case hx=>rfl);intro v2 w2 o2 b2;obtain ⟨A2,c2,rfl⟩:=o2.shape;have O2:=hid o2;have B2:=hid ((vAc w (.cells #[] 33)).trans b2);clear o2 b2)
   go_ret;exact ⟨⟨A2,_,c2⟩,rfl,O2.out.readT (.inr rfl),B2.out⟩
theorem desc_link:Desc Tryz.prog 85 3:=Desc.of (by kernel_rfl)
theorem cl_link (s:Sl3) (xs:List LinkV) (w:World) (h:RSl (linkR) w (vAs w) s.A s.n s.c xs) (hz:xs.length≤1000):Calls Tryz.prog 98 #[.slice s.A s.n s.c] w (GotO (linkR) 85 xs w):=by
 obtain ⟨A,n,c⟩:=s;dsimp only at h ⊢;have hlen:=h.len
 rcases A with _|ad
 · have hn0:n=0:=by
    have hc:=h.2.2.2.1 rfl
    have:=h.le
    omega
   subst hn0;obtain rfl:xs=[]:=List.eq_nil_of_length_eq_zero hlen;clear h hlen
   have hq:=fun w=>Lib.run_eql_slice_nil (P:=Tryz.prog) w 24 85 none 0 c 0 0 Tryz.underlying24
   go_enter Tryz.func98,Tryz.ntmps98
   go_wp2;go_ret;exact ⟨Sl3.nil,rfl,ROwn.nil _ _ _,Below.refl _ _⟩
 · have HS:=hid h
   have LN:=hid hlen;have HZ:=hid hz;clear h hlen hz
   have hq:=fun w=>Lib.run_eql_slice_nil (P:=Tryz.prog) w 24 85 (some ad) n c 0 0 Tryz.underlying24
   go_enter Tryz.func98,Tryz.ntmps98
   go_wp2_with (at_builtin;(refine vDi ((linkR).nf w.heap.size) rfl (.tmp 5) (.tmp 6) 24 85 Tryz.underlying24 desc_link (show 0<3 by decide) rfl w.heap.size _ [] (ROwn.lit0 w w.heap.size 85 (Nat.le_refl _)) (vAs w) (some ad) n c xs ?hy ?hF ?h1 ?h2 ?hs ?hx ?_);(case hy=>exact (HS.out.keep (fun b hb=>Below.heap_alloc w _ b hb) (fun _ h=>h)).flat (fun _ _ _ _ _ h=>h));(case hF=>exact fun b hb=>⟨by (have h3:b<w.heap.size:=hb;simp;omega),fun e=>by (have e2:w.heap.size=b:=Option.some.inj e;have h3:b<w.heap.size:=hb;omega)⟩);(case h1=>(have:=LN.out;have:=HZ.out;simp;omega));(case h2=>simp);(case hs=>rfl);(case hx=>rfl);intro v2 w2 o2 b2;obtain ⟨A2,c2,rfl⟩:=o2.shape;have O2:=hid o2;have B2:=hid ((vAc w (.cells #[] 85)).trans b2);clear o2 b2)
   go_ret;exact ⟨⟨A2,_,c2⟩,rfl,O2.out,B2.out⟩
theorem desc_stat:Desc Tryz.prog 67 4:=Desc.of (by kernel_rfl)
theorem cl_stat (s:Sl3) (xs:List StatV) (w:World) (h:RSl (statR) w (vAs w) s.A s.n s.c xs) (hz:xs.length≤1000):Calls Tryz.prog 101 #[.slice s.A s.n s.c] w (GotO (statR) 67 xs w):=by
 obtain ⟨A,n,c⟩:=s;dsimp only at h ⊢;have hlen:=h.len
 rcases A with _|ad
 · have hn0:n=0:=by
    have hc:=h.2.2.2.1 rfl
    have:=h.le
    omega
   subst hn0;obtain rfl:xs=[]:=List.eq_nil_of_length_eq_zero hlen;clear h hlen
   have hq:=fun w=>Lib.run_eql_slice_nil (P:=Tryz.prog) w 26 67 none 0 c 0 0 Tryz.underlying26
   go_enter Tryz.func101,Tryz.ntmps101
   go_wp2;go_ret;exact ⟨Sl3.nil,rfl,ROwn.nil _ _ _,Below.refl _ _⟩
 · have HS:=hid h
   have LN:=hid hlen;have HZ:=hid hz;clear h hlen hz
   have hq:=fun w=>Lib.run_eql_slice_nil (P:=Tryz.prog) w 26 67 (some ad) n c 0 0 Tryz.underlying26
   go_enter Tryz.func101,Tryz.ntmps101
   go_wp2_with (at_builtin;(refine vDi ((statR).nf w.heap.size) rfl (.tmp 5) (.tmp 6) 26 67 Tryz.underlying26 desc_stat (show 0<4 by decide) rfl w.heap.size _ [] (ROwn.lit0 w w.heap.size 67 (Nat.le_refl _)) (vAs w) (some ad) n c xs ?hy ?hF ?h1 ?h2 ?hs ?hx ?_);(case hy=>exact (HS.out.keep (fun b hb=>Below.heap_alloc w _ b hb) (fun _ h=>h)).flat (fun _ _ _ _ _ h=>h));(case hF=>exact fun b hb=>⟨by (have h3:b<w.heap.size:=hb;simp;omega),fun e=>by (have e2:w.heap.size=b:=Option.some.inj e;have h3:b<w.heap.size:=hb;omega)⟩);(case h1=>(have:=LN.out;have:=HZ.out;simp;omega));(case h2=>simp);(case hs=>rfl);(case hx=>rfl);intro v2 w2 o2 b2;obtain ⟨A2,c2,rfl⟩:=o2.shape;have O2:=hid o2;have B2:=hid ((vAc w (.cells #[] 67)).trans b2);clear o2 b2)
   go_ret;exact ⟨⟨A2,_,c2⟩,rfl,O2.out,B2.out⟩
theorem desc_irb:Desc Tryz.prog 97 5:=Desc.of (by kernel_rfl)
theorem cl_irb (s:Sl3) (xs:List IrbV) (w:World) (h:RSl (irbR) w (vAs w) s.A s.n s.c xs) (hz:xs.length≤1000):Calls Tryz.prog 106 #[.slice s.A s.n s.c] w (GotO (irbR) 97 xs w):=by
 obtain ⟨A,n,c⟩:=s;dsimp only at h ⊢;have hlen:=h.len
 rcases A with _|ad
 · have hn0:n=0:=by
    have hc:=h.2.2.2.1 rfl
    have:=h.le
    omega
   subst hn0;obtain rfl:xs=[]:=List.eq_nil_of_length_eq_zero hlen;clear h hlen
   have hq:=fun w=>Lib.run_eql_slice_nil (P:=Tryz.prog) w 29 97 none 0 c 0 0 Tryz.underlying29
   go_enter Tryz.func106,Tryz.ntmps106
   go_wp2;go_ret;exact ⟨Sl3.nil,rfl,ROwn.nil _ _ _,Below.refl _ _⟩
 · have HS:=hid h
   have LN:=hid hlen;have HZ:=hid hz;clear h hlen hz
   have hq:=fun w=>Lib.run_eql_slice_nil (P:=Tryz.prog) w 29 97 (some ad) n c 0 0 Tryz.underlying29
   go_enter Tryz.func106,Tryz.ntmps106
   go_wp2_with (at_builtin;(refine vDi ((irbR).nf w.heap.size) rfl (.tmp 5) (.tmp 6) 29 97 Tryz.underlying29 desc_irb (show 0<5 by decide) rfl w.heap.size _ [] (ROwn.lit0 w w.heap.size 97 (Nat.le_refl _)) (vAs w) (some ad) n c xs ?hy ?hF ?h1 ?h2 ?hs ?hx ?_);(case hy=>exact (HS.out.keep (fun b hb=>Below.heap_alloc w _ b hb) (fun _ h=>h)).flat (fun _ _ _ _ _ h=>h));(case hF=>exact fun b hb=>⟨by (have h3:b<w.heap.size:=hb;simp;omega),fun e=>by (have e2:w.heap.size=b:=Option.some.inj e;have h3:b<w.heap.size:=hb;omega)⟩);(case h1=>(have:=LN.out;have:=HZ.out;simp;omega));(case h2=>simp);(case hs=>rfl);(case hx=>rfl);intro v2 w2 o2 b2;obtain ⟨A2,c2,rfl⟩:=o2.shape;have O2:=hid o2;have B2:=hid ((vAc w (.cells #[] 97)).trans b2);clear o2 b2)
   go_ret;exact ⟨⟨A2,_,c2⟩,rfl,O2.out,B2.out⟩
end Go.Proofs.YtkpbbfehglihlaaGreatDoor
