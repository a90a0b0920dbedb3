import Derived.Test.YtgnkpbgaoiaefaaGreatPb10
import Derived.Test.YtgnkpbgaoiaefaaGreatPb17
import Derived.Test.YtgnkpbgaoiaefaaGreatPb15
import Derived.Lib.SlKept
import Derived.Lib.SliceRun
import Derived.Shelf.RegionOpenPlain
set_option maxRecDepth 100000
set_option maxHeartbeats 40000000
namespace Go.Proofs.YtgnkpbgaoiaefaaGreat
open Go.Lib (hid)
open Go.RowKit Go.Lib
theorem idx_int (f:FuncId) (caps:Array Value) (hcf:vBk Tryz.prog f) (A:Option Addr) (n c:Nat) (xs:List Int) (w:World) (h:ISl w .i64 A n c xs) (g:Nat→Bool)
 (hf:∀(k:Nat) w',k<n→Below w.heap.size w w'→Calls Tryz.prog f (#[.int .i64 (xs.getD k 0)]++caps) w' fun e w2=>e=.returned (.bool (g k))∧Below w'.heap.size w' w2)
 (V:Int) (hV:IsFst g n V):Calls Tryz.prog 153 #[.slice A n c,.func (.func f) #[] caps] w fun e w'=>e=.returned (.int .i64 V)∧Below w.heap.size w w':=by
 have hle:=h.le;have hcap:=h.cap;have H:=hid h;have HF:=hid hf;have HV:=hid hV;have CF:=hid hcf;clear h hf hV hcf
 go_enter Tryz.func153,Tryz.ntmps153
 go_wp2
 go_loopw [8] (fun i wr=>∃k:Nat,i=.int .i64 k∧k≤n∧Below w.heap.size w wr∧∀j,j<k→g j=false) (fun i _=>match i with| .int _ y=>(n - y).toNat|_=>0)
 case atStart=>exact ⟨0,rfl,by omega,Below.refl _ _,fun j hj=>absurd hj (by omega)⟩
 case round=>
  obtain ⟨k,rfl,hk,hb,hall⟩:=hrel;have W:=hid hb;have AL:=hid hall;clear hb hall
  by_cases hlt:k<n
  · obtain ⟨b0,o0,rfl,hb0,hc0⟩:=H.out.2.2.2 (by omega)
    have CK:=hid (fun w' hw=>HF.out k w' hlt hw);have d0:=(W.out.cell (p:=⟨b0,o0+k,none⟩) hb0).trans (hc0 k hlt);generalize xs.getD k 0=X at *
    have lt2:(k:Int)<(n:Int):=by omega
    clear hc0;obtain ⟨v,hv⟩:∃v,g k=v:=⟨_,rfl⟩;rw [hv] at CK
    cases v with
    |false=>
     have AK:=hid (show ∀j,j<k+1→g j=false from fun j hj=>by
      rcases Nat.lt_or_ge j k with h'|h'
      · exact AL.out j h'
      · obtain rfl:j=k:=by omega
        exact hv)
     clear hv;go_wp2_with ((rw [CF.out _ _]);(refine (CK.out _ W.out).mono ?_);rintro e w2 ⟨rfl,hb2⟩;have W2:=hid (vAa W.out hb2);clear hb2)
     go_roundw
     case rel=>exact ⟨k+1,by simp,by omega,W2.out,AK.out⟩
     case measure=>simp only [];omega
    |true=>
     have EV:=hid (HV.out.hit hlt hv AL.out);clear hv;go_wp2_with ((rw [CF.out _ _]);(refine (CK.out _ W.out).mono ?_);rintro e w2 ⟨rfl,hb2⟩;have W2:=hid (vAa W.out hb2);clear hb2);go_ret;exact ⟨by rw [EV.out];rfl,W2.out⟩
  · have EV:=hid (HV.out.no (fun j hj=>AL.out j (by omega)))
    have lt2:¬(k:Int)<(n:Int):=by omega
    go_wp2;go_ret;exact ⟨by rw [EV.out];rfl,W.out⟩
theorem fst_ex (g:Nat→Bool):∀n,∃V,IsFst g n V
 |0=>⟨-1,.inr ⟨rfl,fun j hj=>absurd hj (by omega)⟩⟩
 |n+1=>by
  obtain ⟨V,⟨k,h1,h2,h3,h4⟩|⟨h1,h2⟩⟩:=fst_ex g n
  · exact ⟨V,.inl ⟨k,by omega,h2,h3,h4⟩⟩
  · cases hg:g n with
    |true=>exact ⟨n,.inl ⟨n,by omega,rfl,hg,h2⟩⟩
    |false=>exact ⟨-1,.inr ⟨rfl,fun j hj=>by
      rcases Nat.lt_or_ge j n with h'|h'
      · exact h2 j h'
      · obtain rfl:j=n:=by omega
        exact hg⟩⟩
def IRow (w:World) (b:Nat) (dk:Array Int):Prop:=∃cur,w.heap[b]?=some (.cells cur 3)∧∀j,j<dk.size→cur[j]?=some (.int .i64 dk[j]!)
section
variable {w w':World} {b B:Nat} {dk:Array Int}
theorem IRow.lt (h:IRow w b dk):b<w.heap.size:=by
 obtain ⟨cur,hh,_⟩:=h
 rcases Nat.lt_or_ge b w.heap.size with h'|h'
 · exact h'
 · rw [Array.getElem?_eq_none h'] at hh;cases hh
theorem IRow.same (h:IRow w b dk) (e:w'.heap[b]?=w.heap[b]?):IRow w' b dk:=by
 obtain ⟨cur,hh,hc⟩:=h;exact ⟨cur,e.trans hh,hc⟩
theorem IRow.below (h:IRow w b dk) (hb:Below w.heap.size w w'):IRow w' b dk:=h.same (hb.block b h.lt)
theorem IRow.cell (h:IRow w b dk) {j:Nat} (hj:j<dk.size):w.cell? ⟨b,j,none⟩=some (.int .i64 dk[j]!):=by
 obtain ⟨cur,hh,hc⟩:=h;simp only [World.cell?,hh];simpa using hc j hj
theorem IRow.live (h:IRow w b dk) (o:Nat):w.frozen? ⟨b,o,none⟩=false:=by
 obtain ⟨cur,hh,_⟩:=h;simp [World.frozen?,hh]
theorem IRow.set (h:IRow w b dk) (k:Nat) (v:Int):IRow (w.setCell ⟨b,k,none⟩ (.int .i64 v)) b (dk.setIfInBounds k v):=by
 obtain ⟨cur,hh,hc⟩:=h;refine ⟨cur.setIfInBounds k (.int .i64 v),by unfold World.setCell;rw [Array.getElem?_modify,if_pos rfl,hh];simp,fun j hj=>?_⟩;rw [Array.size_setIfInBounds] at hj;have h1:=hc j hj
 by_cases e:j=k
 · subst e
   have hl:j<cur.size:=(Array.getElem?_eq_some_iff.1 h1).1;rw [Go.Sort.getElem!_set_same dk j _ hj,Array.getElem?_setIfInBounds];simp [hl]
 · rw [Go.Sort.getElem!_set_other dk k j _ e,Array.getElem?_setIfInBounds,if_neg (fun g=>e g.symm)]
   exact h1
theorem IRow.fill (T:Nat):∀(vs:List Value) (o:Nat) (w:World),IRow w b dk→dk.size≤o→IRow (w.setCells b o vs) b dk
 | [],_,_,h,_=>h
 |v :: r,o,w,h,ho=>by
  rw [World.setCells];refine IRow.fill T r (o+1) _ ?_ (by omega);obtain ⟨cur,hh,hc⟩:=h;refine ⟨cur.setIfInBounds o v,by unfold World.setCell;rw [Array.getElem?_modify,if_pos rfl,hh];simp,fun j hj=>?_⟩;rw [Array.getElem?_setIfInBounds,if_neg (by omega)];exact hc j hj
theorem IRow.take (h:IRow w b dk) (k:Nat):IRow w b (dk.toList.take k).toArray:=by
 obtain ⟨cur,hh,hc⟩:=h;refine ⟨cur,hh,fun j hj=>?_⟩
 have hj2:j<k∧j<dk.size:=by simp at hj;omega
 rw [hc j hj2.2];congr 2;rw [getElem!_pos dk j hj2.2,getElem!_pos _ j hj];simp
theorem below_cells (hb:B≤b) {a:World}:∀(vs:List Value) (o:Nat) (w:World),Below B a w→Below B a (w.setCells b o vs)
 | [],_,_,h=>h
 |v :: r,o,w,h=>by rw [World.setCells];exact below_cells hb r (o+1) _ (h.setCell (p:=⟨b,o,none⟩) hb v)
theorem IRow.rsl (h:IRow w b dk) (hB:B≤b) (ys:List Int) (m c:Nat) (hl:ys.length=m) (hm:m≤dk.size) (hmc:m≤c) (hc:c≤maxLen) (he:∀j,j<m→ys[j]?=some dk[j]!):RSl (Rdr.int .i64) w (fun b=>B≤b∧TyI w b) (some ⟨b,0,none⟩) m c ys:=by
 have hlt:=h.lt;obtain ⟨cur,hh,hcc⟩:=h;refine ⟨hl,hmc,hc,(fun e=>by cases e),fun hn0=>⟨b,0,rfl,⟨hB,cur,3,hh,.inl rfl⟩,hlt,fun j x hx=>⟨[.int .i64 x],rfl,fun i v hv=>?_⟩⟩⟩;have hj:j<ys.length:=(List.getElem?_eq_some_iff.1 hx).1
 have hi0:i=0:=by have:=(List.getElem?_eq_some_iff.1 hv).1;simp at this;omega
 subst hi0
 have hv2:v=.int .i64 x:=by simpa using hv.symm
 subst hv2
 have hx2:x=dk[j]!:=by have:=he j (by omega);rw [hx] at this;exact Option.some.inj this
 rw [hx2];simp only [World.cell?,hh]
 show cur[0+j * 1+0]?=_
 rw [Nat.zero_add,Nat.mul_one,Nat.add_zero];exact hcc j (by omega)
end
theorem OwnI.irow {w:World} {B:Nat} {s:Sl3} {xs:List Int} (h:OwnI .i64 3 w B s xs) (h0:0<xs.length):∃b,s.A=some ⟨b,0,none⟩∧B≤b∧xs.length≤s.c∧s.c≤maxLen∧IRow w b xs.toArray:=by
 rcases h.2 with ⟨hv,hn⟩|⟨g,cap,cur,hv,hB,hh,hnc,hm,hs,htk⟩
 · omega
 · injection hv with e1 e2 e3
   refine ⟨g,e1,hB,by omega,by omega,cur,hh,fun j hj=>?_⟩
   have hj':j<xs.length:=by simpa using hj
   have e:cur.toList.take xs.length=xs.map (Value.int .i64):=by simpa using htk
   have h1:(cur.toList.take xs.length)[j]?=some (.int .i64 xs[j]):=by rw [e,List.getElem?_map,List.getElem?_eq_getElem hj'];rfl
   rw [List.getElem?_take,if_pos hj'] at h1;rw [getElem!_pos xs.toArray j hj];simpa using h1
def GotDel (B:Nat) (s:Sl3) (ys:List Int) (w:World) (e:Ending) (w':World):Prop:=∃m,e=.returned (.slice s.A m s.c)∧RSl (Rdr.int .i64) w' (fun b=>B≤b∧TyI w' b) s.A m s.c ys∧Below B w w'
theorem delf_any (f:FuncId) (caps:Array Value) (hcf:vBk Tryz.prog f) (B:Nat) (s:Sl3) (xs:List Int) (w:World) (h:OwnI .i64 3 w B s xs) (h0:0<xs.length) (hB:B≤w.heap.size) (g:Int→Bool)
 (hf:∀(x:Int) w',Below B w w'→Calls Tryz.prog f (#[.int .i64 x]++caps) w' fun e w2=>e=.returned (.bool (g x))∧Below w'.heap.size w' w2):
 Calls Tryz.prog 89 #[.slice s.A s.n s.c,.func (.func f) #[] caps] w (GotDel B s (xs.filter fun x=>!g x) w):=by
 obtain ⟨b,hA,hBb,hle,hcap,hrow⟩:=h.irow h0;have hn:=h.len;have hrd:=h.read (.inl rfl);obtain ⟨A,n,c⟩:=s;dsimp only at hA hn hle hcap hrd ⊢;subst hA hn;have mx:maxLen=9223372036854775807:=rfl;obtain ⟨V,hV⟩:=fst_ex (fun k=>g (xs.getD k 0)) xs.length;have IX:=hid (idx_int f caps hcf (some ⟨b,0,none⟩) xs.length c xs w (vBg hrd) (fun k=>g (xs.getD k 0)) (fun k w' _ hb=>hf _ w' (hb.mono hB)) V hV)
 have CF:=hid hcf;have HF:=hid hf
 have gd:∀j,j<xs.length→xs.getD j 0=xs.toArray[j]!:=fun j hj=>by rw [getElem!_pos xs.toArray j (by simpa using hj)];simp [List.getD,hj]
 obtain ⟨kp,HK⟩:∃kp:Nat→Bool,Hid (kp=fun j=>!g xs.toArray[j]!):=⟨_,hid rfl⟩
 have hfil:(xs.filter fun x=>!g x)=keptUpTo kp xs.toArray xs.toArray.size:=by
  have:=keptUpTo_filter (fun x=>!g x) xs.toArray
  rw [HK.out,this]
 have FIL:=hid hfil;have ROW:=hid hrow;have RD:=hid hrd
 have hsz:xs.toArray.size=xs.length:=by simp
 clear hf hcf hrow hrd hfil h
 rcases hV with ⟨k0,hk0,rfl,ht,hall⟩|⟨rfl,hall⟩
 rotate_left
 · have ALL:=hid (show (xs.filter fun x=>!g x)=xs from by
    rw [List.filter_eq_self];intro x hx;obtain ⟨j,hj,rfl⟩:=List.getElem_of_mem hx
    have:=hall j hj
    simp [List.getD,hj] at this
    simp [this])
   clear hall gd
   go_enter Tryz.func89,Tryz.ntmps89
   go_wp2_with (go_at_call 153;(with_reducible refine IX.out.mono ?_);rintro e w2 ⟨rfl,hb⟩;have X2:=hid hb;clear hb);go_ret;exact ⟨xs.length,rfl,by rw [ALL.out];exact RD.out.keep (fun b hb=>X2.out.block b hb.2.lt) (fun b hb=>⟨hb.1,hb.2.below X2.out⟩),X2.out.mono hB⟩
 · have ST:=hid (KeptInv.start (kp:=kp) (d:=xs.toArray) (k0:=k0) (fun j hj=>by rw [HK.out];show (!g xs.toArray[j]!)=true;rw [←gd j (by omega)];have:=hall j hj;simp only at this;rw [this];rfl) (by rw [HK.out];show (!g xs.toArray[k0]!)=false;rw [←gd k0 hk0];simp only at ht;rw [ht];rfl))
   have GD:=hid gd;have kne:((k0:Int) == -1)=false:=beq_eq_false_iff_ne.2 (by omega);clear hall gd ht
   go_enter Tryz.func89,Tryz.ntmps89
   go_wp2_with (go_at_call 153;(with_reducible refine IX.out.mono ?_);rintro e w2 ⟨rfl,hb⟩;have X2:=hid hb;clear hb)
   go_loopw [5,6,7] (fun s5 s6 _ wr=>∃(i j:Nat) (dk:Array Int),s5=.int .i64 i∧s6=.int .i64 j∧j≤xs.length∧IRow wr b dk∧KeptInv kp xs.toArray j i dk∧Below B w wr) (fun _ s6 _ _=>match s6 with| .int _ y=>(xs.length - y).toNat|_=>0)
   case atStart=>exact ⟨k0,k0+1,xs.toArray,rfl,by go_num,by omega,ROW.out.below X2.out,ST.out,X2.out.mono hB⟩
   case round=>
   obtain ⟨i,j,dk,rfl,rfl,hj,hr,hI,hb⟩:=hrel;have R:=hid hr;have I:=hid hI;have W:=hid hb;have hij:=hI.lt
   have hds:dk.size=xs.length:=by rw [hI.size];simp
   by_cases hlt:j<xs.length
   · have lt2:(j:Int)<(xs.length:Int):=by omega
     have cj:=hr.cell (j:=j) (by omega);rw [hI.high j (by omega)] at cj;obtain ⟨u,hu⟩:∃u,xs.toArray[j]! =u:=⟨_,rfl⟩;rw [hu] at cj;have HU:=hid hu;have CK:=hid (fun w' hw=>HF.out u w' hw);have li:=hr.lt;clear hr hI hb hu;obtain ⟨v,hv⟩:∃v,g u=v:=⟨_,rfl⟩;rw [hv] at CK
     cases v with
     |true=>
      have KI:=hid (I.out.skip (by rw [HK.out];show (!g xs.toArray[j]!)=false;rw [HU.out,hv];rfl));clear hv;go_wp2_with ((rw [CF.out _ _]);(refine (CK.out _ W.out).mono ?_);rintro e w3 ⟨rfl,hb2⟩;have R3:=hid (R.out.below hb2);have W3:=hid (W.out.trans (hb2.mono (Nat.le_trans hB W.out.size)));clear hb2)
      go_roundw
      case rel=>exact ⟨i,j+1,dk,rfl,by simp,by omega,R3.out,KI.out,W3.out⟩
      case measure=>simp only [];omega
     |false=>
      have KI:=hid (by
       have:=I.out.keep (by simpa using hlt) (by rw [HK.out];show (!g xs.toArray[j]!)=true;rw [HU.out,hv];rfl)
       rwa [HU.out] at this)
      clear hv;go_wp2_with ((rw [CF.out _ _]);(refine (CK.out _ W.out).mono ?_);rintro e w3 ⟨rfl,hb2⟩;have R3:=hid (R.out.below hb2);have W3:=hid (W.out.trans (hb2.mono (Nat.le_trans hB W.out.size)));have l3:=R3.out.lt;have ci:=R3.out.cell (j:=i) (by omega);have fi:=R3.out.live i;clear hb2)
      go_roundw
      case rel=>exact ⟨i+1,j+1,dk.setIfInBounds i u,by simp,by simp,by omega,R3.out.set i u,KI.out,W3.out.setCell (p:=⟨b,i,none⟩) hBb _⟩
      case measure=>simp only [];omega
   · obtain rfl:j=xs.length:=by omega
     have lt2:¬(xs.length:Int)<(xs.length:Int):=by omega
     have li:=hr.lt
     have hcl:∀ty,(Builtin.clear_ #[34] ty #[.slice (some ⟨b,i,none⟩) (xs.length - i) (c - i)]).run Tryz.prog wr=.ok (.tuple #[]) (wr.setCells b i (List.replicate (xs.length - i) (.int .i64 0))):=
      fun ty=>Lib.run_clear_slice wr _ _ ty _ Tryz.underlying34 Tryz.zeroValue3 rfl rfl b i _ _ (by omega) (fun t ht=>by rw [hr.cell (j:=i+t) (by omega)];rfl) (fun t ht=>hr.live _)
     clear hr hI hb;go_wp2;go_ret;have hI:=I.out;refine ⟨i,rfl,?_,below_cells hBb _ _ _ W.out⟩;rw [FIL.out];have hk:=hI.len;rw [show xs.length=xs.toArray.size by simp] at hk;have R9:IRow (wr.setCells b i (List.replicate (xs.length - i) (.int .i64 0))) b (dk.toList.take i).toArray:=IRow.fill 0 _ _ _ (R.out.take i) (by simp;omega);refine R9.rsl hBb _ i c hk (by simp;omega) (by omega) hcap (fun t ht=>?_)
     have h1:=hI.low t ht;rw [show xs.length=xs.toArray.size by simp] at h1;rw [h1,getElem!_pos dk t (by omega),getElem!_pos _ t (by simp;omega)];simp
open Go.RowKit
def meetB (N:NV) (x y:Nat):Bool:=decide ((N.domains.getD x DomV.zero).dev≠(N.domains.getD y DomV.zero).dev) && (decide ((N.devices.getD (N.domains.getD x DomV.zero).dev.toNat DevV.zero).vtep≠0) && (decide ((N.devices.getD (N.domains.getD y DomV.zero).dev.toNat DevV.zero).vtep≠0) && (decide ((N.domains.getD x DomV.zero).vni≠0) && (decide ((N.domains.getD x DomV.zero).vni=(N.domains.getD y DomV.zero).vni) && memB (N.domains.getD y DomV.zero).peers (x:Int)))))
theorem net_c1 {w:World} (S:NSl3) (T:TypeId) {W:World} (hW:w.alloc (.cells (nA S) T)=W):Cs W w.heap.size (vBx S)∧Below w.heap.size w W:=by
 subst hW;exact ⟨Cs.new w (vBx S) T,vAc _ _⟩
theorem meet_any (N:NV) (S:NSl3) (x y:Nat) (w:World) (h:NRead w (vAs w) N S) (hxl:x<S.dm.n) (hyl:y<S.dm.n) (hd:∀j,j<N.domains.length→plB (N.domains.getD j DomV.zero).dev (N.devices.length:Int)=true):
 Calls Tryz.prog 132 #[vBb S,.int .i64 (x:Int),.int .i64 (y:Int)] w fun e w'=>e=.returned (.bool (meetB N x y))∧Below w.heap.size w w':=by
 have HD:=hid h.dm;have HV:=hid h.dv;have hle:=h.dm.le;have hcap:=h.dm.cap;have hle2:=h.dv.le;have hcap2:=h.dv.cap;have dml:=h.dm.len;have dvl:=h.dv.len;rw [dml,dvl] at hd;have HDD:=hid hd;obtain ⟨V,E⟩:∃V,meetB N x y=V:=⟨_,rfl⟩;rw [E];have E:=hid E;clear h hd dml dvl;unfold vBb
 go_enter Tryz.func132,Tryz.ntmps132
 go_upto_region 1 with fail
 obtain ⟨W,hW⟩:∃W,w.alloc (.cells (nA S) 31)=W:=⟨_,rfl⟩;have NC:=net_c1 S _ hW;rw [hW];clear hW;have B0:=hid NC.2;have f0:=NC.1.1 0 _ rfl;have f3:=NC.1.1 3 _ rfl;have ql:w.heap.size<W.heap.size:=NC.1.2;clear NC;have HDX:=HDD.out x hxl;have HDY:=HDD.out y hyl;obtain ⟨bp,op,vp,ep,_,hbp,⟨s,rfl,rs⟩,rp⟩:=vAj HD.out x hxl DomV.zero;obtain ⟨bq,oq,vq,eq_,_,_,⟨t,rfl,rt⟩,rq⟩:=vAj HD.out y hyl DomV.zero
 rw [ep] at eq_
 injection eq_ with eq_
 injection eq_ with h1 h2
 subst h1 h2;have RP:=vAb rp (B0.out.block bp hbp);have RQ:=vAb rq (B0.out.block bp hbp);have E2:=E.out;unfold meetB at E2;clear E;generalize N.domains.getD x DomV.zero=D at *;generalize N.domains.getD y DomV.zero=G at *;obtain ⟨c1,c2⟩:=(vBm _ _).1 HDX;obtain ⟨c3,c4⟩:=(vBm _ _).1 HDY;obtain ⟨dx,hx⟩:=Int.eq_ofNat_of_zero_le c1;obtain ⟨dy,hy⟩:=Int.eq_ofNat_of_zero_le c3
 have hdx:dx<S.dv.n:=by omega
 have hdy:dy<S.dv.n:=by omega
 obtain ⟨bd,od,vd,ed,_,hbd,hvd,rd⟩:=vAj HV.out dx hdx DevV.zero;obtain ⟨be,oe,ve,ee,_,_,hve,re⟩:=vAj HV.out dy hdy DevV.zero;rw [ed] at ee
 injection ee with ee
 injection ee with h1 h2
 subst h1 h2;have hvd:vd=vId (N.devices.getD dx DevV.zero):=hvd;have hve:ve=vId (N.devices.getD dy DevV.zero):=hve;subst hvd hve;have RD:=vAb rd (B0.out.block bd hbd);have RE:=vAb re (B0.out.block bd hbd);rw [show D.dev.toNat=dx by rw [hx];rfl,show G.dev.toNat=dy by rw [hy];rfl] at E2;generalize N.devices.getD dx DevV.zero=X at *;generalize N.devices.getD dy DevV.zero=Y at *;have E:=hid E2
 clear E2;have v4:=RD 4 _ rfl;have u4:=RE 4 _ rfl;rw [show od+dx * devR.n=od+dx * 5 from rfl] at v4;rw [show od+dy * devR.n=od+dy * 5 from rfl] at u4;have p0:=RP 0 _ rfl;have q0:=RQ 0 _ rfl;have p1:=RP 1 _ rfl;have q1:=RQ 1 _ rfl;have p2:=RP 2 _ rfl;have q2:=RQ 2 _ rfl;have p3:=RP 3 _ rfl;have q3:=RQ 3 _ rfl;have p4:=RP 4 _ rfl;have q4:=RQ 4 _ rfl;have p5:=RP 5 _ rfl;have q5:=RQ 5 _ rfl;simp only [Nat.add_zero] at p0 q0
 rw [show op+x * domR.n=op+x * 6 from rfl] at p0 p1 p2 p3 p4 p5;rw [show op+y * domR.n=op+y * 6 from rfl] at q0 q1 q2 q3 q4 q5
 have lx:(x:Int)<(S.dm.n:Int):=by omega
 have ly:(y:Int)<(S.dm.n:Int):=by omega
 have ldx:(dx:Int)<(S.dv.n:Int):=by omega
 have ldy:(dy:Int)<(S.dv.n:Int):=by omega
 rw [ep] at f3;rw [ed] at f0;rw [hx] at p0;rw [hy] at q0;have hbp1:bp<W.heap.size:=Nat.lt_of_lt_of_le hbp B0.out.size;have hbd1:bd<W.heap.size:=Nat.lt_of_lt_of_le hbd B0.out.size;have CT:=hid (fun (w':World) (hb:Below w.heap.size w w')=>cont_of t.A t.n t.c G.peers (x:Int) w' (vBg (vAr rt hb)));have HX:=hid hx;have HY:=hid hy;clear rp rq RP RQ rd re RD RE c1 c2 c3 c4 hx hy ep ed rs rt HDX HDY
 have SK:=hid (show ∀wx,Below W.heap.size W wx→(wx.cell? ⟨w.heap.size,3,none⟩=some (.slice (some ⟨bp,op,none⟩) S.dm.n S.dm.c)∧wx.cell? ⟨bp,op+x * 6,none⟩=some (.int .i64 (dx:Int))∧wx.cell? ⟨bp,op+x * 6+1,none⟩=some (.int .i64 D.vlan)∧wx.cell? ⟨bp,op+x * 6+2,none⟩=some (.int .i64 D.vni)∧wx.cell? ⟨bp,op+x * 6+3,none⟩=some (.int .i64 D.irb)∧wx.cell? ⟨bp,op+x * 6+4,none⟩=some (.int .i64 D.row)∧wx.cell? ⟨bp,op+x * 6+5,none⟩=some (.slice s.A s.n s.c)∧wx.cell? ⟨bp,op+y * 6,none⟩=some (.int .i64 (dy:Int))∧wx.cell? ⟨bp,op+y * 6+1,none⟩=some (.int .i64 G.vlan)∧wx.cell? ⟨bp,op+y * 6+2,none⟩=some (.int .i64 G.vni)∧wx.cell? ⟨bp,op+y * 6+3,none⟩=some (.int .i64 G.irb)∧wx.cell? ⟨bp,op+y * 6+4,none⟩=some (.int .i64 G.row)∧wx.cell? ⟨bp,op+y * 6+5,none⟩=some (.slice t.A t.n t.c)) from fun wx hx=>⟨(hx.cell (p:=⟨_,3,none⟩) ql).trans f3,(hx.cell (p:=⟨bp,_,none⟩) hbp1).trans p0,(hx.cell (p:=⟨bp,_,none⟩) hbp1).trans p1,(hx.cell (p:=⟨bp,_,none⟩) hbp1).trans p2,(hx.cell (p:=⟨bp,_,none⟩) hbp1).trans p3,(hx.cell (p:=⟨bp,_,none⟩) hbp1).trans p4,(hx.cell (p:=⟨bp,_,none⟩) hbp1).trans p5,(hx.cell (p:=⟨bp,_,none⟩) hbp1).trans q0,(hx.cell (p:=⟨bp,_,none⟩) hbp1).trans q1,(hx.cell (p:=⟨bp,_,none⟩) hbp1).trans q2,(hx.cell (p:=⟨bp,_,none⟩) hbp1).trans q3,(hx.cell (p:=⟨bp,_,none⟩) hbp1).trans q4,(hx.cell (p:=⟨bp,_,none⟩) hbp1).trans q5⟩)
 have KW:=hid (show ∀wx,Below W.heap.size W wx→wx.cell? ⟨w.heap.size,0,none⟩=some (.slice (some ⟨bd,od,none⟩) S.dv.n S.dv.c)∧wx.cell? ⟨bd,od+dx * 5+4,none⟩=some (.int .u32 X.vtep)∧wx.cell? ⟨bd,od+dy * 5+4,none⟩=some (.int .u32 Y.vtep)∧Below w.heap.size w wx from fun wx hx=>⟨(hx.cell (p:=⟨_,0,none⟩) ql).trans f0,(hx.cell (p:=⟨bd,_,none⟩) hbd1).trans v4,(hx.cell (p:=⟨bd,_,none⟩) hbd1).trans u4,B0.out.trans (hx.mono B0.out.size)⟩)
 go_cut [7,8] (fun p q wx=>∃b7 b8,p=.pointer (some ⟨b7,0,none⟩)∧q=.pointer (some ⟨b8,0,none⟩)∧Cs wx b7 [.int .i64 (dx:Int),.int .i64 D.vlan,.int .i64 D.vni,.int .i64 D.irb,.int .i64 D.row,.slice s.A s.n s.c]∧Cs wx b8 [.int .i64 (dy:Int),.int .i64 G.vlan,.int .i64 G.vni,.int .i64 G.irb,.int .i64 G.row,.slice t.A t.n t.c]∧Below W.heap.size W wx)
 case first=>
  go_region_held_law (fun w'=>(w'.cell? ⟨w.heap.size,3,none⟩=some (.slice (some ⟨bp,op,none⟩) S.dm.n S.dm.c)∧w'.cell? ⟨bp,op+x * 6,none⟩=some (.int .i64 (dx:Int))∧w'.cell? ⟨bp,op+x * 6+1,none⟩=some (.int .i64 D.vlan)∧w'.cell? ⟨bp,op+x * 6+2,none⟩=some (.int .i64 D.vni)∧w'.cell? ⟨bp,op+x * 6+3,none⟩=some (.int .i64 D.irb)∧w'.cell? ⟨bp,op+x * 6+4,none⟩=some (.int .i64 D.row)∧w'.cell? ⟨bp,op+x * 6+5,none⟩=some (.slice s.A s.n s.c)∧w'.cell? ⟨bp,op+y * 6,none⟩=some (.int .i64 (dy:Int))∧w'.cell? ⟨bp,op+y * 6+1,none⟩=some (.int .i64 G.vlan)∧w'.cell? ⟨bp,op+y * 6+2,none⟩=some (.int .i64 G.vni)∧w'.cell? ⟨bp,op+y * 6+3,none⟩=some (.int .i64 G.irb)∧w'.cell? ⟨bp,op+y * 6+4,none⟩=some (.int .i64 G.row)∧w'.cell? ⟨bp,op+y * 6+5,none⟩=some (.slice t.A t.n t.c))) ((refine SK.out _ ?_;(repeat (first|exact Below.refl _ _|exact vAc _ _|exact vBl _ _ _|(with_reducible refine Below.alloc ?_ (by simp<;>omega) _)|refine vAd ?_ 1)))) (fail)
  all_goals (try go_wp2)
  all_goals go_meet
  all_goals (refine ⟨_,_,rfl,rfl,?_,?_,?_⟩)
  all_goals first
   |(refine ⟨fun j v hj=>?_,by (simp<;>omega)⟩;rcases j with _|_|_|_|_|_|j<;>first|(simp at hj;done)|(simp at hj;subst hj;simp [go_sem];done))
   |(repeat (first|exact Below.refl _ _|exact vAc _ _|exact vBl _ _ _|(with_reducible refine Below.alloc ?_ (by simp<;>omega) _)|refine vAd ?_ 1))
 case rest=>
 obtain ⟨b7,b8,rfl,rfl,C7,C8,hbw⟩:=hcut;rename World=>w7;obtain ⟨k1,k2,k3,hB7⟩:=KW.out _ hbw;have B7:=hid hB7;have m0:=C7.1 0 _ rfl;have m2:=C7.1 2 _ rfl;have o0_:=C8.1 0 _ rfl;have o2_:=C8.1 2 _ rfl;have o5_:=C8.1 5 _ rfl;clear p0 p1 p2 p3 p4 p5 q0 q1 q2 q3 q4 q5 f0 f3 v4 u4 hB7 hbw C7 C8
 have HE:=hid (show (decide (dx≠dy) && (decide (X.vtep≠0) && (decide (Y.vtep≠0) && (decide (D.vni≠0) && (decide (D.vni=G.vni) && memB G.peers (x:Int))))))=V by
  rw [←E.out,HX.out,HY.out];congr 1
  by_cases g:dx=dy
  · rw [decide_eq_false (by simpa using g),decide_eq_false (show ¬(dx:Int)≠(dy:Int) by simp;omega)]
  · rw [decide_eq_true (by simpa using g),decide_eq_true (show (dx:Int)≠(dy:Int) by omega)])
 generalize memB G.peers (x:Int)=M at *;clear E HX HY
 by_cases t1:dx≠dy
 rotate_left
 · have z1:((dx:Int) != (dy:Int))=false:=by simp;omega
   have EV:=hid (show V=false by rw [←HE.out,decide_eq_false t1];simp);clear t1;go_wp2;go_ret;exact ⟨by rw [EV.out];rfl,B7.out⟩
 have z1:((dx:Int) != (dy:Int))=true:=by simp;omega
 by_cases t2:X.vtep≠0
 rotate_left
 · have z2:(X.vtep != 0)=false:=by simp;omega
   have EV:=hid (show V=false by rw [←HE.out,decide_eq_false t2];simp);clear t1 t2;go_wp2;go_ret;exact ⟨by rw [EV.out];rfl,B7.out⟩
 have z2:(X.vtep != 0)=true:=by simp;omega
 by_cases t3:Y.vtep≠0
 rotate_left
 · have z3:(Y.vtep != 0)=false:=by simp;omega
   have EV:=hid (show V=false by rw [←HE.out,decide_eq_false t3];simp);clear t1 t2 t3;go_wp2;go_ret;exact ⟨by rw [EV.out];rfl,B7.out⟩
 have z3:(Y.vtep != 0)=true:=by simp;omega
 by_cases t4:D.vni≠0
 rotate_left
 · have z4:(D.vni != 0)=false:=by simp;omega
   have EV:=hid (show V=false by rw [←HE.out,decide_eq_false t4];simp);clear t1 t2 t3 t4;go_wp2;go_ret;exact ⟨by rw [EV.out];rfl,B7.out⟩
 have z4:(D.vni != 0)=true:=by simp;omega
 by_cases t5:D.vni=G.vni
 rotate_left
 · have z5:(D.vni == G.vni)=false:=by simp;omega
   have EV:=hid (show V=false by rw [←HE.out,decide_eq_false t5];simp);clear t1 t2 t3 t4 t5;go_wp2;go_ret;exact ⟨by rw [EV.out];rfl,B7.out⟩
 have z5:(D.vni == G.vni)=true:=by simp;omega
 have EV:=hid (show M=V by rw [←HE.out,decide_eq_true t1,decide_eq_true t2,decide_eq_true t3,decide_eq_true t4,decide_eq_true t5];rfl);clear t1 t2 t3 t4 t5;go_wp2_with (go_at_call 115;(with_reducible refine (CT.out _ B7.out).mono ?_);rintro e w8 ⟨rfl,rfl⟩);go_ret;exact ⟨by rw [←EV.out];rfl,B7.out⟩
end Go.Proofs.YtgnkpbgaoiaefaaGreat
