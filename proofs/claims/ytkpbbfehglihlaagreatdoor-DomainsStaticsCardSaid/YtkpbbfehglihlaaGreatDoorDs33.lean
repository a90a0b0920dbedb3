import Derived.Test.YtkpbbfehglihlaaGreatDoorDs14
import Derived.Test.YtkpbbfehglihlaaGreatDoorDs32
import Derived.Test.YtkpbbfehglihlaaGreatDoorDs02
import Derived.Lib.SlKept
import Derived.Lib.SliceRun
import Derived.Shelf.RegionOpenPlain
import Derived.SizedLaws
set_option maxRecDepth 100000
set_option maxHeartbeats 40000000
namespace Go.Proofs.YtkpbbfehglihlaaGreatDoor
open Go.Lib (hid)
open Go.RowKit Go.Lib
theorem idx_int (f:FuncId) (caps:Array Value) (hcf:vBi Tryz.prog f) (A:Option Addr) (n c:Nat) (xs:List Int) (w:World) (h:ISl w .i64 A n c xs) (g:Nat→Bool)
 (hf:∀(k:Nat) w',k<n→Below w.heap.size w w'→Calls Tryz.prog f (#[.int .i64 (xs.getD k 0)]++caps) w' fun e w2=>e=.returned (.bool (g k))∧Below w'.heap.size w' w2)
 (V:Int) (hV:IsFst g n V):Calls Tryz.prog 109 #[.slice A n c,.func (.func f) #[] caps] w fun e w'=>e=.returned (.int .i64 V)∧Below w.heap.size w w':=by
 have hle:=h.le;have hcap:=h.cap;have H:=hid h;have HF:=hid hf;have HV:=hid hV;have CF:=hid hcf;clear h hf hV hcf
 go_enter Tryz.func109,Tryz.ntmps109
 go_wp2
 go_loopw [8] (fun i wr=>∃k:Nat,i=.int .i64 k∧k≤n∧Below w.heap.size w wr∧∀j,j<k→g j=false) (fun i _=>match i with| .int _ y=>(n - y).toNat|_=>0)
 case atStart=>exact ⟨0,rfl,by omega,Below.refl _ _,fun j hj=>absurd hj (by omega)⟩
 case round=>
  obtain ⟨k,rfl,hk,hb,hall⟩:=hrel;have W:=hid hb;have AL:=hid hall;clear hb hall
  by_cases hlt:k<n
  · obtain ⟨b0,o0,rfl,hb0,hc0⟩:=H.out.2.2.2 (by omega)
    have CK:=hid (fun w' hw=>HF.out k w' hlt hw);have d0:=(W.out.cell (p:=⟨b0,o0+k,none⟩) hb0).trans (hc0 k hlt);generalize xs.getD k 0=X at *
    have lt2:(k:Int)<(n:Int):=by omega
    clear hc0;obtain ⟨v,hv⟩:∃v,g k=v:=⟨_,rfl⟩;rw [hv] at CK
    cases v with
    |false=>
     have AK:=hid (show ∀j,j<k+1→g j=false from fun j hj=>by
      rcases Nat.lt_or_ge j k with h'|h'
      · exact AL.out j h'
      · obtain rfl:j=k:=by omega
        exact hv)
     clear hv;go_wp2_with ((rw [CF.out _ _]);(refine (CK.out _ W.out).mono ?_);rintro e w2 ⟨rfl,hb2⟩;have W2:=hid (vAa W.out hb2);clear hb2)
     go_roundw
     case rel=>exact ⟨k+1,by simp,by omega,W2.out,AK.out⟩
     case measure=>simp only [];omega
    |true=>
     have EV:=hid (HV.out.hit hlt hv AL.out);clear hv;go_wp2_with ((rw [CF.out _ _]);(refine (CK.out _ W.out).mono ?_);rintro e w2 ⟨rfl,hb2⟩;have W2:=hid (vAa W.out hb2);clear hb2);go_ret;exact ⟨by rw [EV.out];rfl,W2.out⟩
  · have EV:=hid (HV.out.no (fun j hj=>AL.out j (by omega)))
    have lt2:¬(k:Int)<(n:Int):=by omega
    go_wp2;go_ret;exact ⟨by rw [EV.out];rfl,W.out⟩
theorem fst_ex (g:Nat→Bool):∀n,∃V,IsFst g n V
 |0=>⟨-1,.inr ⟨rfl,fun j hj=>absurd hj (by omega)⟩⟩
 |n+1=>by
  obtain ⟨V,⟨k,h1,h2,h3,h4⟩|⟨h1,h2⟩⟩:=fst_ex g n
  · exact ⟨V,.inl ⟨k,by omega,h2,h3,h4⟩⟩
  · cases hg:g n with
    |true=>exact ⟨n,.inl ⟨n,by omega,rfl,hg,h2⟩⟩
    |false=>exact ⟨-1,.inr ⟨rfl,fun j hj=>by
      rcases Nat.lt_or_ge j n with h'|h'
      · exact h2 j h'
      · obtain rfl:j=n:=by omega
        exact hg⟩⟩
def IRow (w:World) (b:Nat) (dk:Array Int):Prop:=∃cur,w.heap[b]?=some (.cells cur 3)∧∀j,j<dk.size→cur[j]?=some (.int .i64 dk[j]!)
section
variable {w w':World} {b B:Nat} {dk:Array Int}
theorem IRow.lt (h:IRow w b dk):b<w.heap.size:=by
 obtain ⟨cur,hh,_⟩:=h
 rcases Nat.lt_or_ge b w.heap.size with h'|h'
 · exact h'
 · rw [Array.getElem?_eq_none h'] at hh;cases hh
theorem IRow.same (h:IRow w b dk) (e:w'.heap[b]?=w.heap[b]?):IRow w' b dk:=by
 obtain ⟨cur,hh,hc⟩:=h;exact ⟨cur,e.trans hh,hc⟩
theorem IRow.below (h:IRow w b dk) (hb:Below w.heap.size w w'):IRow w' b dk:=h.same (hb.block b h.lt)
theorem IRow.cell (h:IRow w b dk) {j:Nat} (hj:j<dk.size):w.cell? ⟨b,j,none⟩=some (.int .i64 dk[j]!):=by
 obtain ⟨cur,hh,hc⟩:=h;simp only [World.cell?,hh];simpa using hc j hj
theorem IRow.live (h:IRow w b dk) (o:Nat):w.frozen? ⟨b,o,none⟩=false:=by
 obtain ⟨cur,hh,_⟩:=h;simp [World.frozen?,hh]
theorem IRow.set (h:IRow w b dk) (k:Nat) (v:Int):IRow (w.setCell ⟨b,k,none⟩ (.int .i64 v)) b (dk.setIfInBounds k v):=by
 obtain ⟨cur,hh,hc⟩:=h;refine ⟨cur.setIfInBounds k (.int .i64 v),by unfold World.setCell;rw [Array.getElem?_modify,if_pos rfl,hh];simp,fun j hj=>?_⟩;rw [Array.size_setIfInBounds] at hj;have h1:=hc j hj
 by_cases e:j=k
 · subst e
   have hl:j<cur.size:=(Array.getElem?_eq_some_iff.1 h1).1;rw [Go.Sort.getElem!_set_same dk j _ hj,Array.getElem?_setIfInBounds];simp [hl]
 · rw [Go.Sort.getElem!_set_other dk k j _ e,Array.getElem?_setIfInBounds,if_neg (fun g=>e g.symm)]
   exact h1
theorem IRow.fill (T:Nat):∀(vs:List Value) (o:Nat) (w:World),IRow w b dk→dk.size≤o→IRow (w.setCells b o vs) b dk
 | [],_,_,h,_=>h
 |v :: r,o,w,h,ho=>by
  rw [World.setCells];refine IRow.fill T r (o+1) _ ?_ (by omega);obtain ⟨cur,hh,hc⟩:=h;refine ⟨cur.setIfInBounds o v,by unfold World.setCell;rw [Array.getElem?_modify,if_pos rfl,hh];simp,fun j hj=>?_⟩;rw [Array.getElem?_setIfInBounds,if_neg (by omega)];exact hc j hj
theorem IRow.take (h:IRow w b dk) (k:Nat):IRow w b (dk.toList.take k).toArray:=by
 obtain ⟨cur,hh,hc⟩:=h;refine ⟨cur,hh,fun j hj=>?_⟩
 have hj2:j<k∧j<dk.size:=by simp at hj;omega
 rw [hc j hj2.2];congr 2;rw [getElem!_pos dk j hj2.2,getElem!_pos _ j hj];simp
theorem below_cells (hb:B≤b) {a:World}:∀(vs:List Value) (o:Nat) (w:World),Below B a w→Below B a (w.setCells b o vs)
 | [],_,_,h=>h
 |v :: r,o,w,h=>by rw [World.setCells];exact below_cells hb r (o+1) _ (h.setCell (p:=⟨b,o,none⟩) hb v)
theorem IRow.rsl (h:IRow w b dk) (hB:B≤b) (ys:List Int) (m c:Nat) (hl:ys.length=m) (hm:m≤dk.size) (hmc:m≤c) (hc:c≤maxLen) (he:∀j,j<m→ys[j]?=some dk[j]!):RSl (Rdr.int .i64) w (fun b=>B≤b∧TyI w b) (some ⟨b,0,none⟩) m c ys:=by
 have hlt:=h.lt;obtain ⟨cur,hh,hcc⟩:=h;refine ⟨hl,hmc,hc,(fun e=>by cases e),fun hn0=>⟨b,0,rfl,⟨hB,cur,3,hh,.inl rfl⟩,hlt,fun j x hx=>⟨[.int .i64 x],rfl,fun i v hv=>?_⟩⟩⟩;have hj:j<ys.length:=(List.getElem?_eq_some_iff.1 hx).1
 have hi0:i=0:=by have:=(List.getElem?_eq_some_iff.1 hv).1;simp at this;omega
 subst hi0
 have hv2:v=.int .i64 x:=by simpa using hv.symm
 subst hv2
 have hx2:x=dk[j]!:=by have:=he j (by omega);rw [hx] at this;exact Option.some.inj this
 rw [hx2];simp only [World.cell?,hh]
 show cur[0+j * 1+0]?=_
 rw [Nat.zero_add,Nat.mul_one,Nat.add_zero];exact hcc j (by omega)
end
theorem OwnI.irow {w:World} {B:Nat} {s:Sl3} {xs:List Int} (h:OwnI .i64 3 w B s xs) (h0:0<xs.length):∃b,s.A=some ⟨b,0,none⟩∧B≤b∧xs.length≤s.c∧s.c≤maxLen∧IRow w b xs.toArray:=by
 rcases h.2 with ⟨hv,hn⟩|⟨g,cap,cur,hv,hB,hh,hnc,hm,hs,htk⟩
 · omega
 · injection hv with e1 e2 e3
   refine ⟨g,e1,hB,by omega,by omega,cur,hh,fun j hj=>?_⟩
   have hj':j<xs.length:=by simpa using hj
   have e:cur.toList.take xs.length=xs.map (Value.int .i64):=by simpa using htk
   have h1:(cur.toList.take xs.length)[j]?=some (.int .i64 xs[j]):=by rw [e,List.getElem?_map,List.getElem?_eq_getElem hj'];rfl
   rw [List.getElem?_take,if_pos hj'] at h1;rw [getElem!_pos xs.toArray j hj];simpa using h1
def GotDel (B:Nat) (s:Sl3) (ys:List Int) (w:World) (e:Ending) (w':World):Prop:=∃m,e=.returned (.slice s.A m s.c)∧RSl (Rdr.int .i64) w' (fun b=>B≤b∧TyI w' b) s.A m s.c ys∧Below B w w'
theorem delfm_any (f:FuncId) (caps:Array Value) (hcf:vBi Tryz.prog f) (B:Nat) (s:Sl3) (xs:List Int) (w:World) (h:OwnI .i64 3 w B s xs) (h0:0<xs.length) (hB:B≤w.heap.size) (g:Int→Bool)
 (hf:∀(x:Int) w',x∈xs→Below B w w'→Calls Tryz.prog f (#[.int .i64 x]++caps) w' fun e w2=>e=.returned (.bool (g x))∧Below w'.heap.size w' w2):
 Calls Tryz.prog 38 #[.slice s.A s.n s.c,.func (.func f) #[] caps] w (GotDel B s (xs.filter fun x=>!g x) w):=by
 obtain ⟨b,hA,hBb,hle,hcap,hrow⟩:=h.irow h0;have hn:=h.len;have hrd:=h.read (.inl rfl);obtain ⟨A,n,c⟩:=s;dsimp only at hA hn hle hcap hrd ⊢;subst hA hn;have mx:maxLen=9223372036854775807:=rfl;obtain ⟨V,hV⟩:=fst_ex (fun k=>g (xs.getD k 0)) xs.length;have IX:=hid (idx_int f caps hcf (some ⟨b,0,none⟩) xs.length c xs w (vAz hrd) (fun k=>g (xs.getD k 0)) (fun k w' hk hb=>hf _ w' (by simp [List.getD,hk]) (hb.mono hB)) V hV)
 have CF:=hid hcf;have HF:=hid hf
 have gd:∀j,j<xs.length→xs.getD j 0=xs.toArray[j]!:=fun j hj=>by rw [getElem!_pos xs.toArray j (by simpa using hj)];simp [List.getD,hj]
 obtain ⟨kp,HK⟩:∃kp:Nat→Bool,Hid (kp=fun j=>!g xs.toArray[j]!):=⟨_,hid rfl⟩
 have hfil:(xs.filter fun x=>!g x)=keptUpTo kp xs.toArray xs.toArray.size:=by
  have:=keptUpTo_filter (fun x=>!g x) xs.toArray
  rw [HK.out,this]
 have FIL:=hid hfil;have ROW:=hid hrow;have RD:=hid hrd
 have hsz:xs.toArray.size=xs.length:=by simp
 clear hf hcf hrow hrd hfil h
 rcases hV with ⟨k0,hk0,rfl,ht,hall⟩|⟨rfl,hall⟩
 rotate_left
 · have ALL:=hid (show (xs.filter fun x=>!g x)=xs from by
    rw [List.filter_eq_self];intro x hx;obtain ⟨j,hj,rfl⟩:=List.getElem_of_mem hx
    have:=hall j hj
    simp [List.getD,hj] at this
    simp [this])
   clear hall gd
   go_enter Tryz.func38,Tryz.ntmps38
   go_wp2_with (go_at_call 109;(with_reducible refine IX.out.mono ?_);rintro e w2 ⟨rfl,hb⟩;have X2:=hid hb;clear hb);go_ret;exact ⟨xs.length,rfl,by rw [ALL.out];exact RD.out.keep (fun b hb=>X2.out.block b hb.2.lt) (fun b hb=>⟨hb.1,hb.2.below X2.out⟩),X2.out.mono hB⟩
 · have ST:=hid (KeptInv.start (kp:=kp) (d:=xs.toArray) (k0:=k0) (fun j hj=>by rw [HK.out];show (!g xs.toArray[j]!)=true;rw [←gd j (by omega)];have:=hall j hj;simp only at this;rw [this];rfl) (by rw [HK.out];show (!g xs.toArray[k0]!)=false;rw [←gd k0 hk0];simp only at ht;rw [ht];rfl))
   have GD:=hid gd;have kne:((k0:Int) == -1)=false:=beq_eq_false_iff_ne.2 (by omega);clear hall gd ht
   go_enter Tryz.func38,Tryz.ntmps38
   go_wp2_with (go_at_call 109;(with_reducible refine IX.out.mono ?_);rintro e w2 ⟨rfl,hb⟩;have X2:=hid hb;clear hb)
   go_loopw [5,6,7] (fun s5 s6 _ wr=>∃(i j:Nat) (dk:Array Int),s5=.int .i64 i∧s6=.int .i64 j∧j≤xs.length∧IRow wr b dk∧KeptInv kp xs.toArray j i dk∧Below B w wr) (fun _ s6 _ _=>match s6 with| .int _ y=>(xs.length - y).toNat|_=>0)
   case atStart=>exact ⟨k0,k0+1,xs.toArray,rfl,by go_num,by omega,ROW.out.below X2.out,ST.out,X2.out.mono hB⟩
   case round=>
   obtain ⟨i,j,dk,rfl,rfl,hj,hr,hI,hb⟩:=hrel;have R:=hid hr;have I:=hid hI;have W:=hid hb;have hij:=hI.lt
   have hds:dk.size=xs.length:=by rw [hI.size];simp
   by_cases hlt:j<xs.length
   · have lt2:(j:Int)<(xs.length:Int):=by omega
     have cj:=hr.cell (j:=j) (by omega);rw [hI.high j (by omega)] at cj;obtain ⟨u,hu⟩:∃u,xs.toArray[j]! =u:=⟨_,rfl⟩;rw [hu] at cj;have HU:=hid hu;have CK:=hid (fun w' hw=>HF.out u w' (by rw [←hu,getElem!_pos xs.toArray j (by simpa using hlt)];simp) hw);have li:=hr.lt;clear hr hI hb hu;obtain ⟨v,hv⟩:∃v,g u=v:=⟨_,rfl⟩;rw [hv] at CK
     cases v with
     |true=>
      have KI:=hid (I.out.skip (by rw [HK.out];show (!g xs.toArray[j]!)=false;rw [HU.out,hv];rfl));clear hv;go_wp2_with ((rw [CF.out _ _]);(refine (CK.out _ W.out).mono ?_);rintro e w3 ⟨rfl,hb2⟩;have R3:=hid (R.out.below hb2);have W3:=hid (W.out.trans (hb2.mono (Nat.le_trans hB W.out.size)));clear hb2)
      go_roundw
      case rel=>exact ⟨i,j+1,dk,rfl,by simp,by omega,R3.out,KI.out,W3.out⟩
      case measure=>simp only [];omega
     |false=>
      have KI:=hid (by
       have:=I.out.keep (by simpa using hlt) (by rw [HK.out];show (!g xs.toArray[j]!)=true;rw [HU.out,hv];rfl)
       rwa [HU.out] at this)
      clear hv;go_wp2_with ((rw [CF.out _ _]);(refine (CK.out _ W.out).mono ?_);rintro e w3 ⟨rfl,hb2⟩;have R3:=hid (R.out.below hb2);have W3:=hid (W.out.trans (hb2.mono (Nat.le_trans hB W.out.size)));have l3:=R3.out.lt;have ci:=R3.out.cell (j:=i) (by omega);have fi:=R3.out.live i;clear hb2)
      go_roundw
      case rel=>exact ⟨i+1,j+1,dk.setIfInBounds i u,by simp,by simp,by omega,R3.out.set i u,KI.out,W3.out.setCell (p:=⟨b,i,none⟩) hBb _⟩
      case measure=>simp only [];omega
   · obtain rfl:j=xs.length:=by omega
     have lt2:¬(xs.length:Int)<(xs.length:Int):=by omega
     have li:=hr.lt
     have hcl:∀ty,(Builtin.clear_ #[34] ty #[.slice (some ⟨b,i,none⟩) (xs.length - i) (c - i)]).run Tryz.prog wr=.ok (.tuple #[]) (wr.setCells b i (List.replicate (xs.length - i) (.int .i64 0))):=
      fun ty=>Lib.run_clear_slice wr _ _ ty _ Tryz.underlying34 Tryz.zeroValue3 rfl rfl b i _ _ (by omega) (fun t ht=>by rw [hr.cell (j:=i+t) (by omega)];rfl) (fun t ht=>hr.live _)
     clear hr hI hb;go_wp2;go_ret;have hI:=I.out;refine ⟨i,rfl,?_,below_cells hBb _ _ _ W.out⟩;rw [FIL.out];have hk:=hI.len;rw [show xs.length=xs.toArray.size by simp] at hk;have R9:IRow (wr.setCells b i (List.replicate (xs.length - i) (.int .i64 0))) b (dk.toList.take i).toArray:=IRow.fill 0 _ _ _ (R.out.take i) (by simp;omega);refine R9.rsl hBb _ i c hk (by simp;omega) (by omega) hcap (fun t ht=>?_)
     have h1:=hI.low t ht;rw [show xs.length=xs.toArray.size by simp] at h1;rw [h1,getElem!_pos dk t (by omega),getElem!_pos _ t (by simp;omega)];simp
open Go.ChangeShapes Go.WideShapes Go.ChangeAt Go.RowKit
theorem weights_all {H:Type} {P:Program} {e:TypeId} {n:Nat}:∀{l:List (DataW H)} {d:DataW H},d∈l→n∈d.weights P e→n∈DataW.weightsAll P e l
 |x :: r,d,hd,hn=>by
  rw [DataW.weightsAll]
  rcases List.mem_cons.1 hd with h|h
  · subst h;exact List.mem_append.2 (.inl hn)
  · exact List.mem_append.2 (.inr (weights_all h hn))
theorem vDt {H:Type} {enc:TypeId×Value→H} {P:Program} {w:World} {sp:Nat→Bool} {held:Bool} {fuel:Nat} {t:TypeId} {cs:List Value} {x:DataW H×List MemPlace} {fs:Array Field} (ht:P.underlying t=some (.struct fs)) (h:DataW.trod enc P w 0 sp held fuel t cs=some x) (j:Nat) (f:Field) (hf:fs[j]?=some f):
 ∃(y:DataW H×List MemPlace) (n:Nat),DataW.trod enc P w 0 sp held n f.type ((cs.drop f.offset).take (P.cellsOf f.type))=some y∧∀k∈y.1.weights P f.type,k∈x.1.weights P t:=by
 obtain ⟨xs,n,_,rfl,hl,hlen,hg⟩:=DataW.trod_struct ht h
 have hj:j<xs.length:=by rw [hlen];exact (Array.getElem?_eq_some_iff.1 hf).1
 refine ⟨xs[j],n,(hg j f hf).trans (List.getElem?_eq_getElem hj),fun k hk=>?_⟩
 show k∈DataW.weights P t (.agg (xs.map (·.1)))
 rw [DataW.weights,ht];refine DataW.weights_mem_each (j:=j) (t:=f.type) (d:=xs[j].1) ?_ ?_ k hk
 · rw [List.getElem?_map,Array.getElem?_toList,hf];rfl
 · rw [List.getElem?_map,List.getElem?_eq_getElem hj];rfl
theorem vGh {H:Type} {enc:TypeId×Value→H} {P:Program} {w:World} {sp:Nat→Bool} {held:Bool} {fuel:Nat} {t:TypeId} {cs:List Value} {x:DataW H×List MemPlace} {fs:Array Field} (ht:P.underlying t=some (.struct fs)) (h:DataW.trod enc P w 0 sp held fuel t cs=some x) (j:Nat) (f:Field) (hf:fs[j]?=some f) (hs:P.underlying f.type=some .string) (hc:P.cellsOf f.type=1)
 (s:ByteArray) (hv:cs[f.offset]?=some (.string s)):s.size∈x.1.weights P t:=by
 obtain ⟨y,n,hy,hw⟩:=vDt ht h j f hf;obtain ⟨s',hc',rfl,_⟩:=DataW.trod_string hs hy;rw [hc] at hc';have e:=vAf hc';rw [hv] at e
 injection e with e
 injection e with e
 subst e;refine hw _ ?_;rw [DataW.weights];simp
theorem vFl {H:Type} {enc:TypeId×Value→H} {P:Program} {w:World} {sp:Nat→Bool} {held:Bool} {fuel:Nat} {t e:TypeId} {A:Option Addr} {n c:Nat} {x:DataW H×List MemPlace} (ht:P.underlying t=some (.slice e)) (h:DataW.trod enc P w 0 sp held fuel t [.slice A n c]=some x) (k:Nat) (hk:k<n):
 ∃(a:Addr) (cs:List Value) (y:DataW H×List MemPlace) (m:Nat),A=some a∧w.cells? 0 (a.add (k * P.cellsOf e)) (P.cellsOf e)=some cs∧DataW.trod enc P w 0 sp held m e cs=some y∧∀i∈y.1.weights P e,i∈x.1.weights P t:=by
 rcases Go.Deep.open_slice ht h with ⟨h0,_⟩|⟨a,len,cap,m,f,D,Pl,hcs,_,hl,hm,hmm,rfl,hx⟩
 · injection h0 with h0
   injection h0 with _ h1
   omega
 · injection hcs with hcs
   injection hcs with h1 h2 h3
   subst h1 h2 h3
   have hlm:n≤m:=by rw [hmm];split<;>omega
   obtain ⟨cs',g1,g2⟩:=hx k (by omega);refine ⟨a,cs',_,_,rfl,g1,g2,fun i hi=>?_⟩
   show i∈DataW.weights P t (.slice _ _)
   rw [DataW.weights,ht];refine List.mem_cons.2 (.inr (List.mem_append.2 (.inl ?_)));exact weights_all (List.mem_map.2 ⟨k,List.mem_range.2 hk,rfl⟩) hi
structure NmSz (N:NV):Prop where
 dv:∀k,k<N.devices.length→(N.devices.getD k DevV.zero).name.length≤140737488351232
 pt:∀k,k<N.ports.length→(N.ports.getD k PortV.zero).name.length≤140737488351232
 vr:∀k,k<N.vrfs.length→(N.vrfs.getD k VrfV.zero).name.length≤140737488351232
theorem names_dev {H:Type} {enc:TypeId×Value→H} {w:World} {sp:Nat→Bool} {held:Bool} {fuel:Nat} {A:Option Addr} {n c:Nat} {x:DataW H×List MemPlace} (h:DataW.trod enc Tryz.prog w 0 sp held fuel 22 [.slice A n c]=some x) (hw:∀i∈x.1.weights Tryz.prog 22,i≤reachBytes) (xs:List DevV) (hr:RSl devR w (vAs w) A n c xs) (k:Nat) (hk:k<xs.length):(xs.getD k DevV.zero).name.length≤140737488351232:=by
 have hkn:k<n:=by have:=hr.len;omega
 obtain ⟨a,cs,y,m,rfl,h1,h2,h3⟩:=vFl Tryz.underlying22 h k hkn;obtain ⟨b,off,vs,e,_,_,hvs,r0⟩:=vAh hr k hkn DevV.zero;have hvs:vs=devC (xs.getD k DevV.zero):=hvs;subst hvs
 injection e with e
 subst e;generalize xs.getD k DevV.zero=X at *;rw [vHh] at h1;have d:=r0 2 (.string (str X.name)) rfl;have hc:=(World.cells?_some h1).2.2 2 (by omega);rw [vCg,vCg] at hc;rw [show off+k * devR.n=off+k * 5 from rfl] at d;rw [d] at hc;have hs:=vGh Tryz.underlying61 h2 2 _ rfl Tryz.underlying9 vCe (str X.name) (by show cs[2]?=_;exact hc.symm)
 have:=hw _ (h3 _ hs)
 rw [vBa] at this;exact this
theorem names_port {H:Type} {enc:TypeId×Value→H} {w:World} {sp:Nat→Bool} {held:Bool} {fuel:Nat} {A:Option Addr} {n c:Nat} {x:DataW H×List MemPlace} (h:DataW.trod enc Tryz.prog w 0 sp held fuel 23 [.slice A n c]=some x) (hw:∀i∈x.1.weights Tryz.prog 23,i≤reachBytes) (xs:List PortV) (hr:RSl portR w (vAs w) A n c xs) (k:Nat) (hk:k<xs.length):(xs.getD k PortV.zero).name.length≤140737488351232:=by
 have hkn:k<n:=by have:=hr.len;omega
 obtain ⟨a,cs,y,m,rfl,h1,h2,h3⟩:=vFl Tryz.underlying23 h k hkn;obtain ⟨b,off,vs,e,_,_,⟨s,rfl,_⟩,r0⟩:=vAh hr k hkn PortV.zero
 injection e with e
 subst e;generalize xs.getD k PortV.zero=X at *;rw [vGd] at h1;have d:=r0 5 (.string (str X.name)) rfl;have hc:=(World.cells?_some h1).2.2 5 (by omega);rw [vCg,vCg] at hc;rw [show off+k * portR.n=off+k * 7 from rfl] at d;rw [d] at hc;have hs:=vGh Tryz.underlying56 h2 5 _ rfl Tryz.underlying9 vCe (str X.name) (by show cs[5]?=_;exact hc.symm)
 have:=hw _ (h3 _ hs)
 rw [vBa] at this;exact this
theorem names_vrf {H:Type} {enc:TypeId×Value→H} {w:World} {sp:Nat→Bool} {held:Bool} {fuel:Nat} {A:Option Addr} {n c:Nat} {x:DataW H×List MemPlace} (h:DataW.trod enc Tryz.prog w 0 sp held fuel 28 [.slice A n c]=some x) (hw:∀i∈x.1.weights Tryz.prog 28,i≤reachBytes) (xs:List VrfV) (hr:RSl vrfR w (vAs w) A n c xs) (k:Nat) (hk:k<xs.length):(xs.getD k VrfV.zero).name.length≤140737488351232:=by
 have hkn:k<n:=by have:=hr.len;omega
 obtain ⟨a,cs,y,m,rfl,h1,h2,h3⟩:=vFl Tryz.underlying28 h k hkn;obtain ⟨b,off,vs,e,_,_,⟨s,t,rfl,_,_⟩,r0⟩:=vAh hr k hkn VrfV.zero
 injection e with e
 subst e;generalize xs.getD k VrfV.zero=X at *;rw [vHw] at h1;have d:=r0 2 (.string (str X.name)) rfl;have hc:=(World.cells?_some h1).2.2 2 (by omega);rw [vCg,vCg] at hc;rw [show off+k * vrfR.n=off+k * 5 from rfl] at d;rw [d] at hc;have hs:=vGh Tryz.underlying74 h2 2 _ rfl Tryz.underlying9 vCe (str X.name) (by show cs[2]?=_;exact hc.symm)
 have:=hw _ (h3 _ hs)
 rw [vBa] at this;exact this
theorem net_sz {H:Type} {enc:TypeId×Value→H} {w:World} {sp:Nat→Bool} {held:Bool} {fuel:Nat} {x:DataW H×List MemPlace} (N:NV) (S:NSl3) (h:DataW.trod enc Tryz.prog w 0 sp held fuel 31 (vCk S)=some x) (hw:∀i∈x.1.weights Tryz.prog 31,i≤reachBytes) (hr:NRead w (vAs w) N S):NmSz N:=by
 refine ⟨fun k hk=>?_,fun k hk=>?_,fun k hk=>?_⟩
 · obtain ⟨y,n,hy,hwy⟩:=vDt Tryz.underlying31 h 0 _ rfl
   have hy2:DataW.trod enc Tryz.prog w 0 sp held n 22 (((vCk S).drop 0).take (Tryz.prog.cellsOf 22))=some y:=hy;rw [ncells_devs] at hy2;exact names_dev hy2 (fun i hi=>hw i (hwy i hi)) N.devices hr.dv k hk
 · obtain ⟨y,n,hy,hwy⟩:=vDt Tryz.underlying31 h 1 _ rfl
   have hy2:DataW.trod enc Tryz.prog w 0 sp held n 23 (((vCk S).drop 1).take (Tryz.prog.cellsOf 23))=some y:=hy;rw [vIg] at hy2;exact names_port hy2 (fun i hi=>hw i (hwy i hi)) N.ports hr.pt k hk
 · obtain ⟨y,n,hy,hwy⟩:=vDt Tryz.underlying31 h 6 _ rfl
   have hy2:DataW.trod enc Tryz.prog w 0 sp held n 28 (((vCk S).drop 6).take (Tryz.prog.cellsOf 28))=some y:=hy;rw [ncells_vrfs] at hy2;exact names_vrf hy2 (fun i hi=>hw i (hwy i hi)) N.vrfs hr.vr k hk
end Go.Proofs.YtkpbbfehglihlaaGreatDoor
