import Derived.Test.YtgnkpbgaoiaefaaGreatPb23
import Derived.Test.YtgnkpbgaoiaefaaGreatPb34
import Derived.Test.YtgnkpbgaoiaefaaGreatPb09
import Derived.Test.YtgnkpbgaoiaefaaGreatPb30
import Derived.RegionTactic
set_option maxRecDepth 100000
set_option maxHeartbeats 40000000
namespace Go.Proofs.YtgnkpbgaoiaefaaGreat
open Go.Lib (hid)
open Go.RowKit
theorem getD_app {α:Type} (xs ys:List α) (i:Nat) (d:α):(xs++ys).getD i d=if i<xs.length then xs.getD i d else ys.getD (i - xs.length) d:=by
 by_cases h:i<xs.length
 · rw [if_pos h];simp [List.getD,List.getElem?_append_left h]
 · rw [if_neg h];simp [List.getD,List.getElem?_append_right (Nat.le_of_not_lt h)]
theorem getD_old {α:Type} {xs ys:List α} {i:Nat} {d:α} (h:i<xs.length):(xs++ys).getD i d=xs.getD i d:=by rw [getD_app,if_pos h]
theorem getD_new {α:Type} {xs ys:List α} {j:Nat} {d:α}:(xs++ys).getD (xs.length+j) d=ys.getD j d:=by rw [getD_app,if_neg (by omega),Nat.add_sub_cancel_left]
theorem atK_cases (dev v:Int):∀(xs:List DomV) (k:Nat),atK xs dev v k= -1∨(k:Int)≤atK xs dev v k
 | [],k=>.inl rfl
 |d :: r,k=>by
  unfold atK
  by_cases c:d.dev=dev∧d.vlan=v
  · rw [if_pos c];exact .inr (Int.le_refl _)
  · rw [if_neg c]
    rcases atK_cases dev v r (k+1) with h|h
    · exact .inl h
    · exact .inr (by omega)
theorem atK_cons (dev v:Int) (d:DomV) (r:List DomV) (k:Nat):atK (d :: r) dev v k=if d.dev=dev∧d.vlan=v then (k:Int) else atK r dev v (k+1):=rfl
theorem atK_app (dev v:Int):∀(xs ys:List DomV) (k:Nat),atK (xs++ys) dev v k=if atK xs dev v k= -1 then atK ys dev v (k+xs.length) else atK xs dev v k
 | [],ys,k=>by simp [atK]
 |d :: r,ys,k=>by
  rw [List.cons_append,atK_cons,atK_cons]
  by_cases c:d.dev=dev∧d.vlan=v
  · rw [if_pos c,if_pos c,if_neg (by omega)]
  · rw [if_neg c,if_neg c,atK_app dev v r ys (k+1),List.length_cons,show k+1+r.length=k+(r.length+1) by omega]
theorem atF_cases (N:NV) (dev v:Int):atF N dev v= -1∨0≤atF N dev v:=atK_cases dev v N.domains 0
def newD (dev v:Int):DomV:=⟨dev,v,0,-1,0,[]⟩
theorem atK_new (dev d v:Int):∀(vs:List Int) (k:Nat),(d=dev∧v∈vs→∃j,j<vs.length∧vs.getD j 0=v∧atK (vs.map (newD dev)) d v k=((k+j:Nat):Int))∧(¬(d=dev∧v∈vs)→atK (vs.map (newD dev)) d v k= -1)
 | [],k=>⟨fun h=>by simp at h,fun _=>rfl⟩
 |x :: r,k=>by
  rw [List.map_cons];unfold atK;have ih:=atK_new dev d v r (k+1)
  by_cases c:(newD dev x).dev=d∧(newD dev x).vlan=v
  · have c1:dev=d:=c.1
    have c2:x=v:=c.2;rw [if_pos c];refine ⟨fun _=>⟨0,by simp,by simpa using c2,by simp⟩,fun h=>absurd ⟨c1.symm,by rw [c2];simp⟩ h⟩
  · rw [if_neg c]
    refine ⟨fun h=>?_,fun h=>ih.2 (fun g=>h ⟨g.1,List.mem_cons_of_mem _ g.2⟩)⟩
    have hx:x≠v:=fun e=>c ⟨h.1.symm,e⟩
    have hm:v∈r:=by
     rcases List.mem_cons.1 h.2 with e|e
     · exact absurd e.symm hx
     · exact e
    obtain ⟨j,h1,h2,h3⟩:=ih.1 ⟨h.1,hm⟩;exact ⟨j+1,by simpa using h1,by simpa using h2,by rw [h3];congr 1;omega⟩
theorem nodup_idx:∀{l:List Int} {a b:Nat},l.Nodup→a<l.length→b<l.length→l.getD a 0=l.getD b 0→a=b:=by
 intro l a b h ha hb e;simp only [List.getD,List.getElem?_eq_getElem ha,List.getElem?_eq_getElem hb,Option.getD_some] at e;exact (List.getElem_inj h).1 e
theorem up_lt {xs:List Int} {n:Nat} (h:Up xs n):∀j i,i<j→j<n→xs.getD i 0<xs.getD j 0:=by
 intro j
 induction j with
 |zero=>intro i hi;omega
 |succ j ih=>
  intro i hi hj;have h1:=h (j+1) (by omega) hj;rw [Nat.add_sub_cancel] at h1
  by_cases e:i=j
  · subst e;exact h1
  · have:=ih i (by omega) (by omega);omega
theorem up_nodup {xs:List Int} (h:Up xs xs.length):xs.Nodup:=by
 rw [List.nodup_iff_pairwise_ne,List.pairwise_iff_getElem];intro i j hi hj hij
 have:=up_lt h j i hij hj
 simp only [List.getD,List.getElem?_eq_getElem hi,List.getElem?_eq_getElem hj,Option.getD_some] at this;omega
theorem ls_nodup {hi:Int} {xs:List Int} (h:LsOk hi xs):xs.Nodup:=by
 rcases h with h|h
 · rw [h];exact List.nodup_nil
 · unfold vBw at h
   rw [Bool.and_eq_true] at h;exact up_nodup ((vCn xs).1 h.1).2.2
theorem ls_range {hi:Int} {xs:List Int} (h:LsOk hi xs):∀x∈xs,1≤x∧x≤hi:=by
 intro x hx
 rcases h with h|h
 · rw [h] at hx;cases hx
 · unfold vBw at h
   rw [Bool.and_eq_true] at h;have h2:=List.all_eq_true.1 h.2 x hx;simpa using h2
noncomputable def vCh (N:NV) (L:LV) (k:Int):Bool:=decide (L.kind=k) && (rgB L && netB N)
def vGi (N:NV) (L:LV):Bool:=N.devices.any fun d=>decide (d.name=L.dev) || decide (d.mac=L.mac)
noncomputable def pdE (N:NV) (L:LV):Int:=if vCh N L 1=false then 2 else if vGi N L=true then 30 else if 8≤N.devices.length then 3 else 0
def devOf (L:LV):DevV:=⟨L.row,L.num,L.dev,L.mac,0⟩
def vCt (N:NV) (L:LV):NV:={N with devices:=N.devices++[devOf L]}
noncomputable def pdN (N:NV) (L:LV):NV:=if pdE N L=0 then vCt N L else NV.zero
def lkL (N:NV) (dev:Int) (L:LV):List Int:=(L.vlan :: L.tagged).filter fun v=>decide (v≠0) && decide (atF N dev v= -1)
noncomputable def ppE (N:NV) (L:LV):Int:=
 if vCh N L 2=false then 2 else if dvF N L.dev<0 then 31 else if 0≤ptF N (dvF N L.dev) L.port then 30
 else if 40≤N.ports.length∨48<N.domains.length+(lkL N (dvF N L.dev) L).length then 3 else 0
def vDu (N:NV) (L:LV):PortV:=⟨L.row,dvF N L.dev,L.vlan,L.cost,-1,L.port,L.tagged⟩
def vAp (N:NV) (L:LV):NV:={N with ports:=N.ports++[vDu N L],domains:=N.domains++(lkL N (dvF N L.dev) L).map (newD (dvF N L.dev))}
noncomputable def ppN (N:NV) (L:LV):NV:=if ppE N L=0 then vAp N L else NV.zero
theorem vEl {N:NV} {L:LV} {k:Int}:vCh N L k=true↔L.kind=k∧rgB L=true∧NetOk N:=by
 unfold vCh;rw [Bool.and_eq_true,Bool.and_eq_true,decide_eq_true_eq,netB_iff]
theorem dv_place {N:NV} {s:List UInt8} (h:0≤dvF N s):∃j,j<N.devices.length∧dvF N s=(j:Int)∧(N.devices.getD j DevV.zero).name=s:=by
 rcases dvK_fst s N.devices 0 _ rfl with ⟨j,h1,h2,h3,_⟩|⟨h1,_⟩
 · exact ⟨j,h1,by unfold dvF;rw [h2];congr 1;omega,h3⟩
 · unfold dvF at h;rw [h1] at h;omega
theorem pl_old {x:Int} {m n:Nat} (h:plB x (m:Int)=true) (hmn:m≤n):plB x (n:Int)=true:=by
 rw [vBm] at h ⊢;omega
theorem vHg {x:Int} {m:Nat} (h:plB x (m:Int)=true):x.toNat<m:=by
 rw [vBm] at h;omega
theorem withDev_ok {N:NV} {L:LV} (h:NetOk N) (hz:N.devices.length<8):NetOk (vCt N L):=by
 have hl:(vCt N L).devices.length=N.devices.length+1:=by simp [vCt]
 have up:∀{x:Int},plB x (N.devices.length:Int)=true→plB x ((vCt N L).devices.length:Int)=true:=fun g=>pl_old g (by omega)
 have hdm:=h.dm;refine ⟨by omega,h.zpt,h.zlk,h.zdm,h.zst,h.zfl,h.zvr,h.zir,⟨fun i hi=>?_,fun i hi=>?_⟩,fun i hi=>?_,fun i hi=>?_,⟨fun i hi=>?_,fun i hi=>?_,fun i hi=>?_,fun i hi=>?_⟩⟩
 · have g:=hdm.1 i hi
   exact ⟨up g.dev,g.vlan,g.vni,g.one,g.irb⟩
 · intro j hj
   obtain ⟨g1,g2⟩:=hdm.2 i hi j hj;refine ⟨?_,g2⟩;have a:=(hdm.1 i hi).dev
   have hk:plB ((N.domains.getD i DomV.zero).peers.getD j 0) (N.domains.length:Int)=true:=by
    unfold vFk at g1;rw [Bool.and_eq_true] at g1;exact g1.1
   have b:=(hdm.1 _ (vHg hk)).dev;have e1:(vCt N L).devices.getD (N.domains.getD i DomV.zero).dev.toNat DevV.zero=N.devices.getD (N.domains.getD i DomV.zero).dev.toNat DevV.zero:=getD_old (vHg a);have e2:(vCt N L).devices.getD (N.domains.getD ((N.domains.getD i DomV.zero).peers.getD j 0).toNat DomV.zero).dev.toNat DevV.zero=N.devices.getD (N.domains.getD ((N.domains.getD i DomV.zero).peers.getD j 0).toNat DomV.zero).dev.toNat DevV.zero:=getD_old (vHg b)
   rw [show (vCt N L).domains=N.domains from rfl];unfold vFk at g1 ⊢;rw [show (vCt N L).domains=N.domains from rfl,e1,e2];exact g1
 · have g:=h.pt i hi
   exact ⟨up g.dev,g.lo,g.hi,g.tag,g.out,g.one,g.dom,g.doms,g.link⟩
 · have g:=h.lk i hi
   exact ⟨g.a,g.b,g.dev,g.la,g.lb⟩
 · have g:=h.rs.st i hi
   exact ⟨g.dom,g.port,g.dev,g.mbr⟩
 · have g:=h.rs.fl i hi
   exact ⟨up g.dev,g.most⟩
 · have g:=h.rs.vr i hi
   exact ⟨up g.dev,g.imp,g.exp⟩
 · have g:=h.rs.ir i hi
   exact ⟨g.dom,g.vrf,g.bits,g.dev,g.irb⟩
theorem lk_mem {N:NV} {dev:Int} {L:LV} {v:Int}:v∈lkL N dev L↔v∈L.vlan :: L.tagged∧v≠0∧atF N dev v= -1:=by
 unfold lkL;rw [List.mem_filter,Bool.and_eq_true,decide_eq_true_eq,decide_eq_true_eq]
theorem kd2_nodup {row:Int} {L:LV} (h:Kd2 row L) (hb:mbB L=true):(L.vlan :: L.tagged).Nodup:=by
 obtain ⟨s,p,c,v,t,rfl,_,_,_,_,ht⟩:=h;unfold mbB at hb;rw [Bool.and_eq_true,List.all_eq_true] at hb;refine List.nodup_cons.2 ⟨fun hm=>?_,ls_nodup ht⟩
 have:=hb.1 v hm
 simp at this
theorem lk_nodup {N:NV} {dev row:Int} {L:LV} (h:Kd2 row L) (hb:mbB L=true):(lkL N dev L).Nodup:=(kd2_nodup h hb).filter _
theorem atF_port {N:NV} {L:LV} (d v:Int):atF (vAp N L) d v=if atF N d v= -1 then atK ((lkL N (dvF N L.dev) L).map (newD (dvF N L.dev))) d v (0+N.domains.length) else atF N d v:=by
 unfold atF vAp;exact atK_app d v N.domains _ 0
theorem at_old {N:NV} {L:LV} {d v:Int} (h:0≤atF N d v):atF (vAp N L) d v=atF N d v:=by
 rw [atF_port,if_neg (by omega)]
theorem at_port {N:NV} {L:LV} {v:Int} (hm:v∈L.vlan :: L.tagged) (h0:v≠0):0≤atF (vAp N L) (dvF N L.dev) v:=by
 by_cases h:atF N (dvF N L.dev) v= -1
 · rw [atF_port,if_pos h]
   obtain ⟨j,_,_,e⟩:=(atK_new (dvF N L.dev) (dvF N L.dev) v (lkL N (dvF N L.dev) L) (0+N.domains.length)).1 ⟨rfl,lk_mem.2 ⟨hm,h0,h⟩⟩;rw [e];omega
 · have:=atF_cases N (dvF N L.dev) v
   rw [at_old (by omega)];omega
theorem withPort_ok {N:NV} {L:LV} (h:NetOk N) {row:Int} (hk:Kd2 row L) (hb:mbB L=true) (hd:0≤dvF N L.dev) (hz1:N.ports.length<40) (hz2:N.domains.length+(lkL N (dvF N L.dev) L).length≤48):NetOk (vAp N L):=by
 have hlp:(vAp N L).ports.length=N.ports.length+1:=by simp [vAp]
 have hld:(vAp N L).domains.length=N.domains.length+(lkL N (dvF N L.dev) L).length:=by simp [vAp]
 have hdm:=h.dm;have nd:=lk_nodup (N:=N) (dev:=dvF N L.dev) hk hb;obtain ⟨jd,hj1,hj2,_⟩:=dv_place hd
 have hpl:plB (dvF N L.dev) (N.devices.length:Int)=true:=by rw [vBm,hj2];omega
 have oldD:∀{i:Nat},i<N.domains.length→(vAp N L).domains.getD i DomV.zero=N.domains.getD i DomV.zero:=fun hi=>getD_old hi
 have oldP:∀{i:Nat},i<N.ports.length→(vAp N L).ports.getD i PortV.zero=N.ports.getD i PortV.zero:=fun hi=>getD_old hi
 have newDm:∀{i:Nat},¬i<N.domains.length→i<(vAp N L).domains.length→∃j,j<(lkL N (dvF N L.dev) L).length∧i=N.domains.length+j∧(vAp N L).domains.getD i DomV.zero=newD (dvF N L.dev) ((lkL N (dvF N L.dev) L).getD j 0):=fun {i} h1 h2=>by
  refine ⟨i - N.domains.length,by omega,by omega,?_⟩
  have e:i=N.domains.length+(i - N.domains.length):=by omega
  have hj:i - N.domains.length<(lkL N (dvF N L.dev) L).length:=by omega
  conv=>lhs;rw [e]
  show (N.domains++_).getD _ _=_
  rw [getD_new];simp [List.getD,hj]
 have kd:=hk;obtain ⟨s,p,c,v,t,hL,hs,hp,hc,hv,ht⟩:=hk
 have tv:L.vlan=v:=by rw [hL]
 have tt:L.tagged=t:=by rw [hL]
 have mb:=hb;unfold mbB at mb;rw [Bool.and_eq_true,List.all_eq_true,Bool.or_eq_true,decide_eq_true_eq,decide_eq_true_eq,tv,tt] at mb
 have rng:∀x∈L.vlan :: L.tagged,x≠0→1≤x∧x≤4094:=fun x hx h0=>by
  rcases List.mem_cons.1 hx with e|e
  · rw [e,tv] at h0 ⊢;omega
  · rw [tt] at e;exact ls_range ht x e
 refine ⟨h.zdv,by omega,h.zlk,by omega,h.zst,h.zfl,h.zvr,h.zir,⟨fun i hi=>?_,fun i hi=>?_⟩,fun i hi=>?_,fun i hi=>?_,⟨fun i hi=>?_,fun i hi=>?_,fun i hi=>?_,fun i hi=>?_⟩⟩
 · by_cases ho:i<N.domains.length
   · rw [oldD ho]
     have g:=hdm.1 i ho;exact ⟨g.dev,g.vlan,g.vni,by rw [at_old (by rw [g.one];omega)];exact g.one,g.irb⟩
   · obtain ⟨j,hj,e,en⟩:=newDm ho hi
     rw [en]
     have hm:(lkL N (dvF N L.dev) L).getD j 0∈lkL N (dvF N L.dev) L:=by simp [List.getD,hj]
     have hm2:=lk_mem.1 hm;refine ⟨hpl,rng _ hm2.1 hm2.2.1,⟨Int.le_refl 0,show (0:Int)<16777216 by decide⟩,?_,.inl rfl⟩
     show atF (vAp N L) (dvF N L.dev) ((lkL N (dvF N L.dev) L).getD j 0)=_
     rw [atF_port,if_pos hm2.2.2];obtain ⟨j2,g1,g2,g3⟩:=(atK_new (dvF N L.dev) (dvF N L.dev) ((lkL N (dvF N L.dev) L).getD j 0) (lkL N (dvF N L.dev) L) (0+N.domains.length)).1 ⟨rfl,hm⟩;rw [g3]
     have:=nodup_idx nd g1 hj g2
     omega
 · by_cases ho:i<N.domains.length
   · rw [oldD ho]
     intro j hj;obtain ⟨g1,g2⟩:=hdm.2 i ho j hj;refine ⟨?_,g2⟩
     have hk2:plB ((N.domains.getD i DomV.zero).peers.getD j 0) (N.domains.length:Int)=true:=by
      unfold vFk at g1;rw [Bool.and_eq_true] at g1;exact g1.1
     have e1:=oldD ho;have e2:=oldD (vHg hk2);unfold vFk at g1 ⊢;rw [e1,e2,pl_old hk2 (by omega)];rw [hk2] at g1;exact g1
   · obtain ⟨j,hj,e,en⟩:=newDm ho hi
     rw [en]
     exact fun j hj=>absurd hj (Nat.not_lt_zero _)
 · by_cases ho:i<N.ports.length
   · rw [oldP ho]
     have g:=h.pt i ho;exact ⟨g.dev,g.lo,g.hi,g.tag,g.out,g.one,fun g0=>by rw [at_old (g.dom g0)];exact g.dom g0,fun j hj=>by rw [at_old (g.doms j hj)];exact g.doms j hj,g.link⟩
   · have e:i=N.ports.length+0:=by omega
     have en:(vAp N L).ports.getD i PortV.zero=vDu N L:=by
      rw [e]
      show (N.ports++[vDu N L]).getD _ _=_
      rw [getD_new]
      rfl
     rw [en];refine ⟨hpl,?_,?_,?_,?_,?_,?_,?_,.inl rfl⟩
     · show 0≤L.vlan
       rw [tv];exact hv.1
     · show L.vlan≤4094
       rw [tv];exact hv.2
     · show rsB L.tagged 4094=true
       rw [tt];unfold rsB
       rcases ht with e|e
       · rw [decide_eq_true e,Bool.true_or]
       · rw [e,Bool.or_true]
     · show memB L.tagged L.vlan=false
       unfold memB;rw [tt,tv];refine decide_eq_false (fun hm=>?_)
       have:=mb.1 v hm
       simp at this
     · show ¬(L.vlan=0∧L.tagged=[])
       rw [tt,tv];rintro ⟨e1,e2⟩
       rcases mb.2 with g|g
       · omega
       · rw [e2] at g;simp at g
     · intro g0
       have g0:0<L.vlan:=g0;exact at_port List.mem_cons_self (by omega)
     · intro j hj
       have hj:j<L.tagged.length:=hj
       have hm:L.tagged.getD j 0∈L.tagged:=by simp [List.getD,hj]
       have hr:=ls_range ht _ (by rw [←tt];exact hm);exact at_port (v:=L.tagged.getD j 0) (List.mem_cons_of_mem _ hm) (by omega)
 · have g:=h.lk i hi
   have e1:=oldP (vHg g.a);have e2:=oldP (vHg g.b);refine ⟨pl_old g.a (by omega),pl_old g.b (by omega),?_,?_,?_⟩
   · rw [show (vAp N L).links=N.links from rfl,e1,e2];exact g.dev
   · rw [show (vAp N L).links=N.links from rfl,e1];exact g.la
   · rw [show (vAp N L).links=N.links from rfl,e2];exact g.lb
 · have g:=h.rs.st i hi
   have e1:=oldP (vHg g.port);have e2:=oldD (vHg g.dom);refine ⟨pl_old g.dom (by omega),pl_old g.port (by omega),?_,?_⟩
   · rw [show (vAp N L).statics=N.statics from rfl,e1,e2];exact g.dev
   · rw [show (vAp N L).statics=N.statics from rfl,e1,e2];exact g.mbr
 · have g:=h.rs.fl i hi
   exact ⟨g.dev,g.most⟩
 · have g:=h.rs.vr i hi
   exact ⟨g.dev,g.imp,g.exp⟩
 · have g:=h.rs.ir i hi
   have e2:=oldD (vHg g.dom);refine ⟨pl_old g.dom (by omega),g.vrf,g.bits,?_,?_⟩
   · rw [show (vAp N L).irbs=N.irbs from rfl,e2];exact g.dev
   · rw [show (vAp N L).irbs=N.irbs from rfl,e2];exact g.irb
theorem vDq (s t:SlV) (xs ys:List Int) (w:World) (h:ISl w .i64 s.A s.n s.c xs) (h2:ISl w .i64 t.A t.n t.c ys):
 Calls Tryz.prog 22 #[.slice s.A s.n s.c,.slice t.A t.n t.c] w fun e w'=>e=.returned (.bool (xs == ys))∧Drew w w':=by
 obtain ⟨A,n,c⟩:=s;obtain ⟨B,n2,c2⟩:=t;dsimp only at h h2 ⊢;have hle:=h.le;have hcap:=h.cap;have hle2:=h2.le;have hcap2:=h2.cap;have H:=hid h;have H2:=hid h2;clear h h2
 by_cases hne:n=n2
 · subst hne
   by_cases hn:0<n
   · obtain ⟨b,off,rfl,hb,hc⟩:=H.out.2.2.2 hn
     obtain ⟨b2,off2,rfl,hb2,hc2⟩:=H2.out.2.2.2 hn;have HC:=hid hc;have HC2:=hid hc2;clear hc hc2
     go_enter Tryz.func22,Tryz.ntmps22
     go_wp2
     go_loopw [5] (fun i wr=>∃k:Nat,k≤n∧i=.int .i64 (k:Int)∧(∀j,j<k→xs.getD j 0=ys.getD j 0)∧Drew w wr) (fun i _=>n - (intOf i).toNat)
     case atStart=>exact ⟨0,by omega,rfl,fun j hj=>absurd hj (by omega),Drew.refl _⟩
     case round=>
      obtain ⟨k,hk,rfl,hal,m,rfl⟩:=hrel;have AL:=hid hal;clear hal
      by_cases hlt:k<n
      · have c0:w.cell? ⟨b,off+k,none⟩=some (.int .i64 (xs.getD k 0)):=HC.out k hlt
        have c1:w.cell? ⟨b2,off2+k,none⟩=some (.int .i64 (ys.getD k 0)):=HC2.out k hlt;generalize hx:xs.getD k 0=x at c0;generalize hy:ys.getD k 0=y at c1;have HX:=hid hx;have HY:=hid hy;clear hx hy
        by_cases hxy:x=y
        · subst hxy
          go_wp2
          go_quiet (fail)
          go_wp2
          go_roundw
          case rel=>exact ⟨k+1,by omega,by go_num,fun j hj=>by
           by_cases e:j=k
           · subst e;rw [HX.out,HY.out]
           · exact AL.out j (by omega),⟨m+nq,rfl⟩⟩
          case measure=>simp [intOf];omega
        · have E:=hid (show (xs == ys)=false by
           rw [beq_eq_false_iff_ne];intro e;subst e
           exact hxy (HX.out.symm.trans HY.out))
          go_wp2
          go_quiet (fail)
          go_wp2;go_ret;exact ⟨by rw [E.out];rfl,⟨m+nq,by rw [vDl]⟩⟩
      · obtain rfl:k=n:=by omega
        have E:=hid (show (xs == ys)=true by rw [beq_iff_eq];exact vGd H.out.len H2.out.len AL.out);go_wp2;go_ret;exact ⟨by rw [E.out];rfl,⟨m,rfl⟩⟩
   · obtain rfl:n=0:=by omega
     obtain rfl:xs=[]:=List.eq_nil_of_length_eq_zero H.out.len;obtain rfl:ys=[]:=List.eq_nil_of_length_eq_zero H2.out.len
     go_enter Tryz.func22,Tryz.ntmps22
     go_wp2
     go_loop [5] (fun i=>i=.int .i64 0) (fun i=>0)
     case atStart=>rfl
     case round=>
      subst hrel;go_wp2;go_ret;exact ⟨rfl,Drew.refl _⟩
 · have E:=hid (show (xs == ys)=false by
    rw [beq_eq_false_iff_ne];intro e;subst e
    exact hne (H.out.len.symm.trans H2.out.len))
   go_enter Tryz.func22,Tryz.ntmps22
   go_wp2;go_ret;exact ⟨by rw [E.out];rfl,Drew.refl _⟩
theorem req_uint32 (s t:SlV) (xs ys:List Int) (w:World) (h:ISl w .u32 s.A s.n s.c xs) (h2:ISl w .u32 t.A t.n t.c ys):
 Calls Tryz.prog 23 #[.slice s.A s.n s.c,.slice t.A t.n t.c] w fun e w'=>e=.returned (.bool (xs == ys))∧Drew w w':=by
 obtain ⟨A,n,c⟩:=s;obtain ⟨B,n2,c2⟩:=t;dsimp only at h h2 ⊢;have hle:=h.le;have hcap:=h.cap;have hle2:=h2.le;have hcap2:=h2.cap;have H:=hid h;have H2:=hid h2;clear h h2
 by_cases hne:n=n2
 · subst hne
   by_cases hn:0<n
   · obtain ⟨b,off,rfl,hb,hc⟩:=H.out.2.2.2 hn
     obtain ⟨b2,off2,rfl,hb2,hc2⟩:=H2.out.2.2.2 hn;have HC:=hid hc;have HC2:=hid hc2;clear hc hc2
     go_enter Tryz.func23,Tryz.ntmps23
     go_wp2
     go_loopw [5] (fun i wr=>∃k:Nat,k≤n∧i=.int .i64 (k:Int)∧(∀j,j<k→xs.getD j 0=ys.getD j 0)∧Drew w wr) (fun i _=>n - (intOf i).toNat)
     case atStart=>exact ⟨0,by omega,rfl,fun j hj=>absurd hj (by omega),Drew.refl _⟩
     case round=>
      obtain ⟨k,hk,rfl,hal,m,rfl⟩:=hrel;have AL:=hid hal;clear hal
      by_cases hlt:k<n
      · have c0:w.cell? ⟨b,off+k,none⟩=some (.int .u32 (xs.getD k 0)):=HC.out k hlt
        have c1:w.cell? ⟨b2,off2+k,none⟩=some (.int .u32 (ys.getD k 0)):=HC2.out k hlt;generalize hx:xs.getD k 0=x at c0;generalize hy:ys.getD k 0=y at c1;have HX:=hid hx;have HY:=hid hy;clear hx hy
        by_cases hxy:x=y
        · subst hxy
          go_wp2
          go_quiet (fail)
          go_wp2
          go_roundw
          case rel=>exact ⟨k+1,by omega,by go_num,fun j hj=>by
           by_cases e:j=k
           · subst e;rw [HX.out,HY.out]
           · exact AL.out j (by omega),⟨m+nq,rfl⟩⟩
          case measure=>simp [intOf];omega
        · have E:=hid (show (xs == ys)=false by
           rw [beq_eq_false_iff_ne];intro e;subst e
           exact hxy (HX.out.symm.trans HY.out))
          go_wp2
          go_quiet (fail)
          go_wp2;go_ret;exact ⟨by rw [E.out];rfl,⟨m+nq,by rw [vDl]⟩⟩
      · obtain rfl:k=n:=by omega
        have E:=hid (show (xs == ys)=true by rw [beq_iff_eq];exact vGd H.out.len H2.out.len AL.out);go_wp2;go_ret;exact ⟨by rw [E.out];rfl,⟨m,rfl⟩⟩
   · obtain rfl:n=0:=by omega
     obtain rfl:xs=[]:=List.eq_nil_of_length_eq_zero H.out.len;obtain rfl:ys=[]:=List.eq_nil_of_length_eq_zero H2.out.len
     go_enter Tryz.func23,Tryz.ntmps23
     go_wp2
     go_loop [5] (fun i=>i=.int .i64 0) (fun i=>0)
     case atStart=>rfl
     case round=>
      subst hrel;go_wp2;go_ret;exact ⟨rfl,Drew.refl _⟩
 · have E:=hid (show (xs == ys)=false by
    rw [beq_eq_false_iff_ne];intro e;subst e
    exact hne (H.out.len.symm.trans H2.out.len))
   go_enter Tryz.func23,Tryz.ntmps23
   go_wp2;go_ret;exact ⟨by rw [E.out];rfl,Drew.refl _⟩
theorem rs_0 (f0 g0 f1 g1:Int) (f2 g2 f3 g3 f4 g4 f5 g5 f6 g6:List UInt8) (f7 g7 f8 g8 f9 g9 f10 g10 f11 g11 f12 g12:Int) (s1 s2 s3 s4 t1 t2 t3 t4:SlV) (w:World) (e:f0≠g0):
 Calls Tryz.prog 82 #[lF f0 f1 f2 f3 f4 f5 f6 f7 f8 f9 f10 f11 f12 s1 s2 s3 s4,lF g0 g1 g2 g3 g4 g5 g6 g7 g8 g9 g10 g11 g12 t1 t2 t3 t4] w fun e w'=>e=.returned (.bool false)∧Below w.heap.size w w':=by
 have d0:(f0 == g0)=false:=by rw [beq_eq_false_iff_ne];exact e
 clear e;unfold lF
 go_enter Tryz.func82,Tryz.ntmps82
 go_wp2;go_ret;exact ⟨rfl,vAi _ _ _⟩
theorem rs_1 (f0 f1 g1:Int) (f2 g2 f3 g3 f4 g4 f5 g5 f6 g6:List UInt8) (f7 g7 f8 g8 f9 g9 f10 g10 f11 g11 f12 g12:Int) (s1 s2 s3 s4 t1 t2 t3 t4:SlV) (w:World) (e:f1≠g1):
 Calls Tryz.prog 82 #[lF f0 f1 f2 f3 f4 f5 f6 f7 f8 f9 f10 f11 f12 s1 s2 s3 s4,lF f0 g1 g2 g3 g4 g5 g6 g7 g8 g9 g10 g11 g12 t1 t2 t3 t4] w fun e w'=>e=.returned (.bool false)∧Below w.heap.size w w':=by
 have d1:(f1 == g1)=false:=by rw [beq_eq_false_iff_ne];exact e
 clear e;unfold lF
 go_enter Tryz.func82,Tryz.ntmps82
 go_wp2;go_ret;exact ⟨rfl,vAi _ _ _⟩
theorem rs_2 (f0 f1:Int) (f2 g2 f3 g3 f4 g4 f5 g5 f6 g6:List UInt8) (f7 g7 f8 g8 f9 g9 f10 g10 f11 g11 f12 g12:Int) (s1 s2 s3 s4 t1 t2 t3 t4:SlV) (w:World) (e:f2≠g2):
 Calls Tryz.prog 82 #[lF f0 f1 f2 f3 f4 f5 f6 f7 f8 f9 f10 f11 f12 s1 s2 s3 s4,lF f0 f1 g2 g3 g4 g5 g6 g7 g8 g9 g10 g11 g12 t1 t2 t3 t4] w fun e w'=>e=.returned (.bool false)∧Below w.heap.size w w':=by
 have d2:(f2 == g2)=false:=by rw [beq_eq_false_iff_ne];exact e
 clear e;unfold lF
 go_enter Tryz.func82,Tryz.ntmps82
 go_wp2;go_ret;exact ⟨rfl,vAi _ _ _⟩
theorem rs_3 (f0 f1:Int) (f2 f3 g3 f4 g4 f5 g5 f6 g6:List UInt8) (f7 g7 f8 g8 f9 g9 f10 g10 f11 g11 f12 g12:Int) (s1 s2 s3 s4 t1 t2 t3 t4:SlV) (w:World) (e:f3≠g3):
 Calls Tryz.prog 82 #[lF f0 f1 f2 f3 f4 f5 f6 f7 f8 f9 f10 f11 f12 s1 s2 s3 s4,lF f0 f1 f2 g3 g4 g5 g6 g7 g8 g9 g10 g11 g12 t1 t2 t3 t4] w fun e w'=>e=.returned (.bool false)∧Below w.heap.size w w':=by
 have d2:(f2 == f2)=true:=beq_self_eq_true _
 have d3:(f3 == g3)=false:=by rw [beq_eq_false_iff_ne];exact e
 clear e;unfold lF
 go_enter Tryz.func82,Tryz.ntmps82
 go_wp2;go_ret;exact ⟨rfl,vAi _ _ _⟩
theorem rs_4 (f0 f1:Int) (f2 f3 f4 g4 f5 g5 f6 g6:List UInt8) (f7 g7 f8 g8 f9 g9 f10 g10 f11 g11 f12 g12:Int) (s1 s2 s3 s4 t1 t2 t3 t4:SlV) (w:World) (e:f4≠g4):
 Calls Tryz.prog 82 #[lF f0 f1 f2 f3 f4 f5 f6 f7 f8 f9 f10 f11 f12 s1 s2 s3 s4,lF f0 f1 f2 f3 g4 g5 g6 g7 g8 g9 g10 g11 g12 t1 t2 t3 t4] w fun e w'=>e=.returned (.bool false)∧Below w.heap.size w w':=by
 have d2:(f2 == f2)=true:=beq_self_eq_true _;have d3:(f3 == f3)=true:=beq_self_eq_true _
 have d4:(f4 == g4)=false:=by rw [beq_eq_false_iff_ne];exact e
 clear e;unfold lF
 go_enter Tryz.func82,Tryz.ntmps82
 go_wp2;go_ret;exact ⟨rfl,vAi _ _ _⟩
theorem rs_5 (f0 f1:Int) (f2 f3 f4 f5 g5 f6 g6:List UInt8) (f7 g7 f8 g8 f9 g9 f10 g10 f11 g11 f12 g12:Int) (s1 s2 s3 s4 t1 t2 t3 t4:SlV) (w:World) (e:f5≠g5):
 Calls Tryz.prog 82 #[lF f0 f1 f2 f3 f4 f5 f6 f7 f8 f9 f10 f11 f12 s1 s2 s3 s4,lF f0 f1 f2 f3 f4 g5 g6 g7 g8 g9 g10 g11 g12 t1 t2 t3 t4] w fun e w'=>e=.returned (.bool false)∧Below w.heap.size w w':=by
 have d2:(f2 == f2)=true:=beq_self_eq_true _;have d3:(f3 == f3)=true:=beq_self_eq_true _;have d4:(f4 == f4)=true:=beq_self_eq_true _
 have d5:(f5 == g5)=false:=by rw [beq_eq_false_iff_ne];exact e
 clear e;unfold lF
 go_enter Tryz.func82,Tryz.ntmps82
 go_wp2;go_ret;exact ⟨rfl,vAi _ _ _⟩
theorem rs_6 (f0 f1:Int) (f2 f3 f4 f5 f6 g6:List UInt8) (f7 g7 f8 g8 f9 g9 f10 g10 f11 g11 f12 g12:Int) (s1 s2 s3 s4 t1 t2 t3 t4:SlV) (w:World) (e:f6≠g6):
 Calls Tryz.prog 82 #[lF f0 f1 f2 f3 f4 f5 f6 f7 f8 f9 f10 f11 f12 s1 s2 s3 s4,lF f0 f1 f2 f3 f4 f5 g6 g7 g8 g9 g10 g11 g12 t1 t2 t3 t4] w fun e w'=>e=.returned (.bool false)∧Below w.heap.size w w':=by
 have d2:(f2 == f2)=true:=beq_self_eq_true _;have d3:(f3 == f3)=true:=beq_self_eq_true _;have d4:(f4 == f4)=true:=beq_self_eq_true _;have d5:(f5 == f5)=true:=beq_self_eq_true _
 have d6:(f6 == g6)=false:=by rw [beq_eq_false_iff_ne];exact e
 clear e;unfold lF
 go_enter Tryz.func82,Tryz.ntmps82
 go_wp2;go_ret;exact ⟨rfl,vAi _ _ _⟩
theorem rs_7 (f0 f1:Int) (f2 f3 f4 f5 f6:List UInt8) (f7 g7 f8 g8 f9 g9 f10 g10 f11 g11 f12 g12:Int) (s1 s2 s3 s4 t1 t2 t3 t4:SlV) (w:World) (e:f7≠g7):
 Calls Tryz.prog 82 #[lF f0 f1 f2 f3 f4 f5 f6 f7 f8 f9 f10 f11 f12 s1 s2 s3 s4,lF f0 f1 f2 f3 f4 f5 f6 g7 g8 g9 g10 g11 g12 t1 t2 t3 t4] w fun e w'=>e=.returned (.bool false)∧Below w.heap.size w w':=by
 have d2:(f2 == f2)=true:=beq_self_eq_true _;have d3:(f3 == f3)=true:=beq_self_eq_true _;have d4:(f4 == f4)=true:=beq_self_eq_true _;have d5:(f5 == f5)=true:=beq_self_eq_true _;have d6:(f6 == f6)=true:=beq_self_eq_true _
 have d7:(f7 == g7)=false:=by rw [beq_eq_false_iff_ne];exact e
 clear e;unfold lF
 go_enter Tryz.func82,Tryz.ntmps82
 go_wp2;go_ret;exact ⟨rfl,vAi _ _ _⟩
theorem rs_8 (f0 f1:Int) (f2 f3 f4 f5 f6:List UInt8) (f7 f8 g8 f9 g9 f10 g10 f11 g11 f12 g12:Int) (s1 s2 s3 s4 t1 t2 t3 t4:SlV) (w:World) (e:f8≠g8):
 Calls Tryz.prog 82 #[lF f0 f1 f2 f3 f4 f5 f6 f7 f8 f9 f10 f11 f12 s1 s2 s3 s4,lF f0 f1 f2 f3 f4 f5 f6 f7 g8 g9 g10 g11 g12 t1 t2 t3 t4] w fun e w'=>e=.returned (.bool false)∧Below w.heap.size w w':=by
 have d2:(f2 == f2)=true:=beq_self_eq_true _;have d3:(f3 == f3)=true:=beq_self_eq_true _;have d4:(f4 == f4)=true:=beq_self_eq_true _;have d5:(f5 == f5)=true:=beq_self_eq_true _;have d6:(f6 == f6)=true:=beq_self_eq_true _
 have d8:(f8 == g8)=false:=by rw [beq_eq_false_iff_ne];exact e
 clear e;unfold lF
 go_enter Tryz.func82,Tryz.ntmps82
 go_wp2;go_ret;exact ⟨rfl,vAi _ _ _⟩
theorem rs_9 (f0 f1:Int) (f2 f3 f4 f5 f6:List UInt8) (f7 f8 f9 g9 f10 g10 f11 g11 f12 g12:Int) (s1 s2 s3 s4 t1 t2 t3 t4:SlV) (w:World) (e:f9≠g9):
 Calls Tryz.prog 82 #[lF f0 f1 f2 f3 f4 f5 f6 f7 f8 f9 f10 f11 f12 s1 s2 s3 s4,lF f0 f1 f2 f3 f4 f5 f6 f7 f8 g9 g10 g11 g12 t1 t2 t3 t4] w fun e w'=>e=.returned (.bool false)∧Below w.heap.size w w':=by
 have d2:(f2 == f2)=true:=beq_self_eq_true _;have d3:(f3 == f3)=true:=beq_self_eq_true _;have d4:(f4 == f4)=true:=beq_self_eq_true _;have d5:(f5 == f5)=true:=beq_self_eq_true _;have d6:(f6 == f6)=true:=beq_self_eq_true _
 have d9:(f9 == g9)=false:=by rw [beq_eq_false_iff_ne];exact e
 clear e;unfold lF
 go_enter Tryz.func82,Tryz.ntmps82
 go_wp2;go_ret;exact ⟨rfl,vAi _ _ _⟩
theorem rs_10 (f0 f1:Int) (f2 f3 f4 f5 f6:List UInt8) (f7 f8 f9 f10 g10 f11 g11 f12 g12:Int) (s1 s2 s3 s4 t1 t2 t3 t4:SlV) (w:World) (e:f10≠g10):
 Calls Tryz.prog 82 #[lF f0 f1 f2 f3 f4 f5 f6 f7 f8 f9 f10 f11 f12 s1 s2 s3 s4,lF f0 f1 f2 f3 f4 f5 f6 f7 f8 f9 g10 g11 g12 t1 t2 t3 t4] w fun e w'=>e=.returned (.bool false)∧Below w.heap.size w w':=by
 have d2:(f2 == f2)=true:=beq_self_eq_true _;have d3:(f3 == f3)=true:=beq_self_eq_true _;have d4:(f4 == f4)=true:=beq_self_eq_true _;have d5:(f5 == f5)=true:=beq_self_eq_true _;have d6:(f6 == f6)=true:=beq_self_eq_true _
 have d10:(f10 == g10)=false:=by rw [beq_eq_false_iff_ne];exact e
 clear e;unfold lF
 go_enter Tryz.func82,Tryz.ntmps82
 go_wp2;go_ret;exact ⟨rfl,vAi _ _ _⟩
theorem rs_11 (f0 f1:Int) (f2 f3 f4 f5 f6:List UInt8) (f7 f8 f9 f10 f11 g11 f12 g12:Int) (s1 s2 s3 s4 t1 t2 t3 t4:SlV) (w:World) (e:f11≠g11):
 Calls Tryz.prog 82 #[lF f0 f1 f2 f3 f4 f5 f6 f7 f8 f9 f10 f11 f12 s1 s2 s3 s4,lF f0 f1 f2 f3 f4 f5 f6 f7 f8 f9 f10 g11 g12 t1 t2 t3 t4] w fun e w'=>e=.returned (.bool false)∧Below w.heap.size w w':=by
 have d2:(f2 == f2)=true:=beq_self_eq_true _;have d3:(f3 == f3)=true:=beq_self_eq_true _;have d4:(f4 == f4)=true:=beq_self_eq_true _;have d5:(f5 == f5)=true:=beq_self_eq_true _;have d6:(f6 == f6)=true:=beq_self_eq_true _
 have d11:(f11 == g11)=false:=by rw [beq_eq_false_iff_ne];exact e
 clear e;unfold lF
 go_enter Tryz.func82,Tryz.ntmps82
 go_wp2;go_ret;exact ⟨rfl,vAi _ _ _⟩
theorem rs_12 (f0 f1:Int) (f2 f3 f4 f5 f6:List UInt8) (f7 f8 f9 f10 f11 f12 g12:Int) (s1 s2 s3 s4 t1 t2 t3 t4:SlV) (w:World) (e:f12≠g12):
 Calls Tryz.prog 82 #[lF f0 f1 f2 f3 f4 f5 f6 f7 f8 f9 f10 f11 f12 s1 s2 s3 s4,lF f0 f1 f2 f3 f4 f5 f6 f7 f8 f9 f10 f11 g12 t1 t2 t3 t4] w fun e w'=>e=.returned (.bool false)∧Below w.heap.size w w':=by
 have d2:(f2 == f2)=true:=beq_self_eq_true _;have d3:(f3 == f3)=true:=beq_self_eq_true _;have d4:(f4 == f4)=true:=beq_self_eq_true _;have d5:(f5 == f5)=true:=beq_self_eq_true _;have d6:(f6 == f6)=true:=beq_self_eq_true _
 have d12:(f12 == g12)=false:=by rw [beq_eq_false_iff_ne];exact e
 clear e;unfold lF
 go_enter Tryz.func82,Tryz.ntmps82
 go_wp2;go_ret;exact ⟨rfl,vAi _ _ _⟩
theorem rs_13 (f0 f1:Int) (f2 f3 f4 f5 f6:List UInt8) (f7 f8 f9 f10 f11 f12:Int) (f13 g13:List Int) (s1 s2 s3 s4 t1 t2 t3 t4:SlV) (w:World) (h13:ISl w .i64 s1.A s1.n s1.c f13) (k13:ISl w .i64 t1.A t1.n t1.c g13) (e:f13≠g13):
 Calls Tryz.prog 82 #[lF f0 f1 f2 f3 f4 f5 f6 f7 f8 f9 f10 f11 f12 s1 s2 s3 s4,lF f0 f1 f2 f3 f4 f5 f6 f7 f8 f9 f10 f11 f12 t1 t2 t3 t4] w fun e w'=>e=.returned (.bool false)∧Below w.heap.size w w':=by
 have H13:=hid h13;have G13:=hid k13;clear h13 k13;have d2:(f2 == f2)=true:=beq_self_eq_true _;have d3:(f3 == f3)=true:=beq_self_eq_true _;have d4:(f4 == f4)=true:=beq_self_eq_true _;have d5:(f5 == f5)=true:=beq_self_eq_true _;have d6:(f6 == f6)=true:=beq_self_eq_true _;have D13:=hid (show (f13 == g13)=false by rw [beq_eq_false_iff_ne];exact e);clear e;unfold lF
 go_enter Tryz.func82,Tryz.ntmps82
 go_wp2_with (go_at_call 22;(with_reducible refine (vDq s1 t1 f13 g13 _ ((H13.out.alloc _).alloc _) ((G13.out.alloc _).alloc _)).mono ?_);rintro e w13 ⟨rfl,m13,rfl⟩;rw [D13.out]);go_ret;exact ⟨rfl,vAd (vAi _ _ _) _⟩
end Go.Proofs.YtgnkpbgaoiaefaaGreat
