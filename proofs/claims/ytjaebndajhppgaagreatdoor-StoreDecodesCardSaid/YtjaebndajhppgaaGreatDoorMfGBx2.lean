/-GBx2-/
import Derived.Test.YtjaebndajhppgaaGreatDoorMfHd1
import Derived.Test.YtjaebndajhppgaaGreatDoorMfGB
import Derived.Test.YtjaebndajhppgaaGreatDoorMfSoFileM
import Derived.Deep.SlicePairs
import Derived.Test.YtjaebndajhppgaaGreatDoorMfGTm2
import Derived.Test.YtjaebndajhppgaaGreatDoorMfGRg2
import Derived.Deep.DeepCutAuto
import Derived.Test.YtjaebndajhppgaaGreatDoorMfGRg3
set_option linter.unusedVariables false
set_option maxRecDepth 100000
set_option linter.unusedSimpArgs false
set_option maxHeartbeats 2000000
namespace Go.Proofs.YtjaebndajhppgaaGreatDoor
open Go.Proofs.Tryz
open Go.ChangeShapes Go.WideShapes Go.ChangeAt Go.RowKit
def xG (W:World) (b off:Nat) (s:Bx.aY):Prop:=W.cell? ⟨b,off,none⟩=some (.int .i64 s.1)∧∃ v,W.cell? ⟨b,off+1,none⟩=some v∧bN W v s.2
theorem xG.keep {W W':World} {b off:Nat} {s:Bx.aY} (h:xG W b off s) (hb:Below W.heap.size W W'):xG W' b off s:=by obtain ⟨h1,v,h2,h3⟩:=h;exact ⟨aD hb h1,v,aD hb h2,h3.keep hb⟩
def fP (W:World) (v:Value) (L:List Bx.aY):Prop:=∃ (a:Option Addr) (cap:Nat),v=.slice a L.length cap∧L.length≤cap∧cap≤maxLen∧(a=none→cap=0) ∧
 (L.length=0∨∃ b off,a=some ⟨b,off,none⟩∧∀ i (h:i<L.length),xG W b (off+i*2) L[i])
theorem fP.keep {W W':World} {v:Value} {L:List Bx.aY} (h:fP W v L) (hb:Below W.heap.size W W'):fP W' v L:=by obtain ⟨a,cap,h1,h2,h3,h4,h5⟩:=h;refine ⟨a,cap,h1,h2,h3,h4,?_⟩;rcases h5 with h5 | ⟨b,off,e,h5⟩;{exact Or.inl h5};{exact Or.inr ⟨b,off,e,fun i hi=>(h5 i hi).keep hb⟩}
theorem fP.nil (W:World):fP W (.slice none 0 0) []:=⟨none,0,rfl,Nat.le_refl _,by unfold maxLen;omega,fun _=>rfl,Or.inl rfl⟩
theorem fP.get {W:World} {a:Option Addr} {n cap:Nat} {L:List Bx.aY} (h:fP W (.slice a n cap) L) {i:Nat} (hi:i<L.length):∃ b off,a=some ⟨b,off,none⟩∧∀ i (h:i<L.length),xG W b (off+i*2) L[i]:=by obtain ⟨a',cap',e,h2,h3,h4,h5⟩:=h;simp only [Value.slice.injEq] at e;obtain ⟨rfl,rfl,rfl⟩:=e;rcases h5 with h5 | h5;{omega};{exact h5}
theorem fP.open {W:World} {v:Value} {L:List Bx.aY} (h:fP W v L):∃ a cap,v=.slice a L.length cap∧L.length≤cap∧cap≤maxLen∧(a=none→cap=0):=by obtain ⟨a,cap,h1,h2,h3,h4,_⟩:=h;exact ⟨a,cap,h1,h2,h3,h4⟩
section
variable {H:Type} {enc:TypeId×Value→H} {W:World} {base:Nat} {v:Value} {d:DataW H} {p:List MemPlace}
end
open Go.ChangeShapes Go.WideShapes Go.ChangeAt Go.RowKit
theorem Ud {w:World} {P:Program} {ops:Array Oper} {rest:List Oper} {o:Oper} {a:Act} {Q:Exit→Act→World→Prop} (hgd:o.guard=none) (s x:Operand) (t:TypeId)
  (ho:o.op=.call { callee:=.builtin .append,args:=#[s,x],argTypes:=#[t,t] })
  (e:TypeId) (i:TypeInfo) (z:Value) (bytes:Nat) (ht:P.underlying t=some (.slice e)) (hi:P.info? e=some i) (hz:i.zero=some z)
  (hsize:i.size=1) (hby:i.bytes=bytes) (hzs:z.cells.size=1)
  (g n:Nat) (xs:List Value) (hs:a.eval s=.slice (some ⟨g,0,none⟩) n n) (hxl:xs.length=n) (holds:∀ j u,xs[j]?=some u→w.cell? ⟨g,j,none⟩=some u)
  (sg m c:Nat) (us:List Value) (hx:a.eval x=.slice (some ⟨sg,0,none⟩) m c) (hl:us.length=m) (hnews:∀ j u,us[j]?=some u→w.cell? ⟨sg,j,none⟩=some u) (h1:∀ u∈us,u.oneCell'=true)
  (hm:0<m) (h63:n+m≤maxLen) (hbytes:(n+m)*bytes≤140737488355328)
  (h:∀ v' w',w'.ownsRow w.heap.size e 1 v' (n+m) (xs++us)→Below w.heap.size w w'→wpList P ops Q rest (a.put o.dst v') w'):wpList P ops Q (o::rest) a w:=by
 refine wpList_plain hgd fun K hK=>?_;have hsmall:n+m≤9223372036854775807:=by simp only [maxLen] at h63;omega
 subst hby
 have hr:=run_append_grow (P:=P) w t o.type e i z ht hi hz ⟨g,0,none⟩ n n xs (by rw [hsize];omega) (fun j u hu=>by rw [gG rfl,Nat.zero_add];exact holds j u hu) ⟨sg,0,none⟩ m c us (by rw [hsize];omega) (fun j u hu=>by rw [gG rfl,Nat.zero_add];exact hnews j u hu) ak ak (growslice_fits ak hbytes);unfold Oper.wp execOp;simp only [ho,resolve,invoke,builtin,Sem.run_bind,Sem.run_pure,Result.andThen_ok,List.map_toArray,List.map_cons,List.map_nil,hs,hx,hr];refine hK _ _ (h _ _ ⟨by rw [List.length_append];omega,.inr ⟨w.heap.size,_,_,rfl,Nat.le_refl _,heap_alloc_new w.drew _,grownCap_ge w (n+m) n e,grownCap_le_maxLen w (n+m) n e h63,?_,?_⟩⟩ ?_);{have hge:=grownCap_ge w (n+m) n e;simp only [Array.size_append,List.size_toArray,size_zeroCells,hzs,List.length_append];omega};{simp only [Array.toList_append,List.append_assoc];rw [←List.append_assoc,show (n+m)*1=(xs++us).length by rw [List.length_append];omega];exact List.take_left};{exact (Below.refl w.heap.size w).drew.alloc aF _}
theorem Tryz.infobx5:(prog.info? 5).map (fun i=>(i.zero,i.size,i.bytes))=some (some (.int .u8 0),1,1):=aG
theorem Ki (n:Nat) (W:World) (hn:n≤1000000):Calls prog 136 #[.int .i64 n] W fun e W'=>e=.returned (.int .i64 (9+7*n:Nat))∧W'=W:=by go_enter func136,ntmps136;go_wp2;go_ret;exact ⟨jm ak,rfl⟩
structure tq (W:World) (base:Nat) (v:Value) (n:Nat) (l:List Nat) (W':World) (v':Value):Prop where
 own:W'.ownsRow base 5 1 v' n (l.map aM)
 rest:W.grownBy W' v.ownBlock
 moved:Moved W v v'
theorem Kj (v:Value) (n k base:Nat) (l:List Nat) (W:World) (hown:W.ownsRow base 5 1 v n (l.map aM)) (hb:base≤W.heap.size) (hn:n≤1000000000) (hk:k<16777216) :
  Calls prog 102 #[v,.int .i64 k] W fun e W'=>∃ v',e=.returned v'∧tq W base v (n+3) (l++Bx.three k) W' v':=by
 obtain ⟨i0,hi,hz0,hz1,hz2⟩:=info_parts Tryz.infobx5;obtain ⟨a,cap,rfl,_,_,_,_⟩:=rF hown;have HO:=aj hown;clear hown;have e1:(k:Int) / 65536=((k / 65536 % 256:Nat):Int):=ak;have e2:(k:Int) / 256 % 256=((k / 256 % 256:Nat):Int):=ak;have e3:(k:Int) % 256=((k % 256:Nat):Int):=ak;have EE:=aj (show (#[Value.int .u8 ((k:Int) / 65536),Value.int .u8 ((k:Int) / 256 % 256),Value.int .u8 ((k:Int) % 256)]:Array Value)=((Bx.three k).map aM).toArray by rw [e1,e2,e3];rfl);clear e1 e2 e3;go_enter func102,ntmps102;go_wp2_with (at_builtin;refine yx rfl (.tmp 5) (.tmp 14) 32 rfl base 5 i0 _ 1 underlying32 hi hz0 hz1 hz2 rfl (.slice a n cap) n (l.map aM) ((Bx.three k).map aM) 3 rfl W ?hw rfl HO.out W.heap.size rfl rfl ?one ?b1 ?b2 hb ?_)
 case hw=>rw [EE.out]
 case one=>intro u hu;obtain ⟨c,_,rfl⟩:=List.mem_map.1 hu;rfl
 case b1=>unfold maxLen;omega
 case b2=>omega
 intro v' w' h1 h2 h3;rw [←List.map_append] at h1;have H1:=aj h1;have H2:=aj h2;have H3:=aj h3;clear h1 h2 h3;go_wp2;go_ret;exact ⟨v',rfl,⟨H1.out,H2.out,H3.out⟩⟩
theorem Kk (W:World) (a b:Value) (t:TypeId):∃ w2,w2=W.alloc (.cells #[a,b] t)∧w2.cell? ⟨W.heap.size,0,none⟩=some a∧w2.cell? ⟨W.heap.size,1,none⟩=some b∧Hid (Below W.heap.size W w2):=
 ⟨_,rfl,by simp [go_sem],by simp [go_sem],(Below.refl W.heap.size W).alloc aF _⟩
theorem xH {W:World} {b off:Nat} {s:Bx.aY} (h:xG W b off s):∃ (ab:Option Addr) (cb:Nat),W.cell? ⟨b,off,none⟩=some (.int .i64 s.1)∧W.cell? ⟨b,off+1,none⟩=some (.slice ab s.2.length cb)∧s.2.length≤cb∧cb≤maxLen∧bN W (.slice ab s.2.length cb) s.2:=by obtain ⟨h1,v,h2,h3⟩:=h;obtain ⟨ab,cb,rfl,g1,g2,_,_⟩:=bD.open h3;exact ⟨ab,cb,h1,h2,g1,g2,h3⟩
theorem Ue (a:Option Addr) (n cap:Nat) (L:List Bx.aY) (W:World) (hn:n=L.length) (h:fP W (.slice a n cap) L) (hb:∀ s∈L,-9223372036854775808≤s.1∧s.1≤9223372036854775807∧s.2.length≤140737488351232) :
  Calls prog 101 #[.slice a n cap] W fun e W'=>e=.returned (.bool (Bx.kF L))∧Below W.heap.size W W':=by
 have HN:=aj hn;have HS:=aj h;have q8:=aj hb;have hnm:n≤maxLen:=by obtain ⟨a',cap',e,h1,h2,_⟩:=h;simp only [Value.slice.injEq] at e;omega
 unfold maxLen at hnm;clear hn h hb;by_cases h8:8<n;{have HR:=aj (show Bx.kF L=false by unfold Bx.kF;rw [decide_eq_false (by have:=HN.out;omega)];rfl);go_enter func101,ntmps101;go_wp2;go_ret;exact ⟨gF HR.out.symm,Below.refl _ _⟩}
 · have HM:=aj (show Bx.kF L=(Bx.iQ 0 L && decide (Bx.total L≤100000)) by unfold Bx.kF;rw [decide_eq_true (by have:=HN.out;omega),Bool.true_and]);generalize Bx.kF L=r at *;go_enter func101,ntmps101;(go_wp2_with (go_at_call 136;refine (Ki n _ ak).mono ?_;rintro e w' ⟨rfl,dS⟩;have q9:=dS.symm;subst q9));go_loopw [3,4,15] (fun s3 s4 s15 wr=>∃ (i z:Nat) (p:Int),i≤n∧s15=.int .i64 i∧s3=.int .i64 z∧z≤1000+140737488351232*i∧s4=.int .i64 p∧Hid (z+Bx.sizes (L.drop i)=Bx.total L)∧Hid (Bx.iQ p (L.drop i)=Bx.iQ 0 L)∧Hid (Below W.heap.size W wr)) (fun _ _ s15 _=>n-(intOf s15).toNat)
   (case atStart=>exact ⟨0,9+7*n,0,ak,rfl,rfl,ak,rfl,aj (by rw [List.drop_zero,HN.out];rfl),aj (by rw [List.drop_zero]),Below.refl _ _⟩);case round=>
    obtain ⟨i,z,p,hin,rfl,rfl,hz,rfl,HZ1,HR,HB⟩:=hrel;by_cases hlt:i<n
    · have hlt':i<L.length:=(by rw [←HN.out];exact hlt);obtain ⟨b,off,rfl,hc⟩:=(HS.out.keep HB.out).get hlt';obtain ⟨ab,cb,d0,d1,h1,h2,_⟩:=xH (hc i hlt');have hbd:=q8.out L[i] (List.getElem_mem _);have hs:=Bx.TU L i hlt';have hr:=Bx.TQ L p i hlt';have wT:=aj hs;have HR1:=aj hr;generalize L[i]=s at *;obtain ⟨id,body⟩:=s;simp only at *;have lS:(i:Int)<n:=ak;obtain ⟨m,hm⟩:=aB body.length;rw [←hm] at d1 h1 hbd wT;unfold maxLen at h2;clear hc hs hr hm;(go_upto_region 8 with fail);obtain ⟨w2,hw2,e0,e1,HB2⟩:=Kk wr (.int .i64 id) (.slice ab m cb) 56;rw [←hw2];have dw:=aj (aJ HB.out HB2.out);clear hw2 d0 d1;have hz8:z≤1000+140737488351232*8:=ak;rcases (show id≤p∨(p<id∧255<id)∨(p<id∧id≤255) by omega) with h3 | ⟨h3,h4⟩ | ⟨h3,h4⟩;{have HF:=aj (show r=false by rw [HM.out,←HR.out,HR1.out,decide_eq_false ak];rfl);go_wp2;go_ret;exact ⟨gF HF.out.symm,dw.out⟩};{have HF:=aj (show r=false by rw [HM.out,←HR.out,HR1.out,decide_eq_false (show ¬ id≤255 by omega),Bool.and_false];rfl);have h3':¬ id≤p:=ak;go_wp2;go_ret;exact ⟨gF HF.out.symm,dw.out⟩}
      · have HR2:=aj (show Bx.iQ id (L.drop (i+1))=Bx.iQ 0 L by rw [←HR.out,HR1.out,decide_eq_true h3,decide_eq_true h4];rfl);have h3':¬ id≤p:=ak;go_wp2;go_roundw
        (case rel=>exact ⟨i+1,z+m,id,ak,aN,aN,ak,rfl,aj (by have:=HZ1.out;have:=wT.out;omega),HR2,dw⟩);case measure=>simp [intOf];omega
    {obtain rfl:i=n:=ak;have hd:L.drop i=[]:=List.drop_of_length_le (by rw [←HN.out];exact Nat.le_refl _);have hz1:=HZ1.out;have hr:=HR.out;rw [hd] at hz1 hr;have hz2:z=Bx.total L:=hz1;have hr2:Bx.iQ 0 L=true:=hr.symm;have HF:=aj (show r=decide ((z:Int)≤100000) by rw [HM.out,hr2,Bool.true_and,hz2,decide_eq_decide];omega);clear hz1 hr hz2 hr2 hd HZ1 HR HM;go_wp2;go_ret;exact ⟨gF HF.out.symm,HB.out⟩}
theorem tq.below {W W' W0:World} {base n B:Nat} {v v':Value} {l k:List Nat} {m:Nat} (G:tq W base v n l W' v') (hown:W.ownsRow base 5 1 v m (k.map aM)) (hB:Below B W0 W) (hb:B≤W.heap.size) (hle:B≤base):Below B W0 W':=
 hB.grown G.rest hb (fun k hk=>Nat.le_trans hle (hown.lt k hk).1)
theorem tq.cell {W W':World} {base n b o:Nat} {v v':Value} {l:List Nat} (G:tq W base v n l W' v') (hb:b<W.heap.size) (hne:v.ownBlock≠some b):W'.cell? ⟨b,o,none⟩=W.cell? ⟨b,o,none⟩:=
 Dx (G.rest.block b hb (fun e=>hne e.symm))
theorem tq.off {W W':World} {base n b:Nat} {v v':Value} {l:List Nat} (G:tq W base v n l W' v') (hb:b<W.heap.size) (hne:v.ownBlock≠some b):v'.ownBlock≠some b:=by rcases G.moved with e | ⟨k,e,hk⟩;{rw [e];exact hne};{rw [e];intro h;cases h;omega}
theorem xI {w w':World} {base:Nat} {e:TypeId} {size:Nat} {v:Value} {n:Nat} {xs:List Value} (h:w.ownsRow base e size v n xs) (hb:Below w.heap.size w w'):w'.ownsRow base e size v n xs:=
 h.kept (row:=none) ⟨hb.os,hb.tape,hb.output,hb.size,fun k hk _=>hb.block k hk⟩ (by cases v.ownBlock <;> simp)
theorem A9 {w:World} {base base':Nat} {e:TypeId} {size:Nat} {v:Value} {n:Nat} {xs:List Value} (h:w.ownsRow base e size v n xs) (hb:base'≤base):w.ownsRow base' e size v n xs:=by obtain ⟨h1,h2⟩:=h;refine ⟨h1,?_⟩;rcases h2 with h2 | ⟨g,cap,cur,a,b,c⟩;{exact Or.inl h2};{exact Or.inr ⟨g,cap,cur,a,Nat.le_trans hb b,c⟩}
theorem tC {w:World} {base:Nat} {v:Value} {n:Nat} {l:List Nat} (h:w.ownsRow base 5 1 v n (l.map aM)) (hn:n=l.length):bN w v l:=bD.own h hn
theorem Kl {l:List Nat} (h:∀ x∈l,x<256):∀ i,l.getD i 0<256:=fun i=>by rcases Nat.lt_or_ge i l.length with hi | hi;{rw [List.getD,List.getElem?_eq_getElem hi];exact h _ (List.getElem_mem _)};{rw [List.getD,List.getElem?_eq_none hi];decide}
theorem af2 (L:List Bx.aY):∀ x∈Bx.entries L,x<256:=by intro x hx;unfold Bx.entries at hx;rw [List.mem_flatMap] at hx;obtain ⟨s,_,hs⟩:=hx;unfold Bx.entry Bx.three at hs;simp at hs;omega
theorem Km (L:List Bx.aY):∀ x∈Bx.head L,x<256:=by intro x hx;unfold Bx.head at hx;rw [List.mem_append] at hx;rcases hx with hx | hx;{simp at hx;omega};{exact af2 L x hx}
def pre (L:List Bx.aY) (i:Nat):List Nat:=[84,82,73,86,1,L.length % 256]++Bx.entries (L.take i)
theorem Uf (L:List Bx.aY):pre L L.length=Bx.head L:=by unfold pre Bx.head;rw [List.take_length]
theorem Ug (L:List Bx.aY) (i:Nat) (h:i<L.length):pre L i++[(L[i].1 % 256).toNat]++Bx.three L[i].2.length++Bx.three (Cr.sum L[i].2)=pre L (i+1):=by unfold pre;rw [Bx.afP L i h,Bx.entry];simp
def post (L:List Bx.aY) (i:Nat):List Nat:=Bx.head L++Bx.three (Cr.sum (Bx.head L))++Bx.bodies (L.take i)
theorem Uh (L:List Bx.aY) (i:Nat):(post L i).length≤Bx.total L:=by have:=Bx.Kc L i;unfold post Bx.total;rw [List.length_append,List.length_append,Bx.vw,Bx.TN,Bx.AZ];omega
theorem Ui (L:List Bx.aY):Bx.head L++Bx.three (Cr.sum (Bx.head L))=post L 0:=by unfold post;simp [Bx.bodies]
theorem Uj (L:List Bx.aY):post L L.length=Bx.file L:=by unfold post Bx.file;rw [List.take_length]
theorem Uk (L:List Bx.aY) (i:Nat) (h:i<L.length):post L i++L[i].2=post L (i+1):=by unfold post;rw [Bx.afQ L i h];simp
theorem af3 (a:Option Addr) (n cap:Nat) (L:List Bx.aY) (W:World) (hn:n=L.length) (h:fP W (.slice a n cap) L) (hb:∀ s∈L,-9223372036854775808≤s.1∧s.1≤9223372036854775807∧s.2.length≤140737488351232) (hM:¬ Bx.May L) :
  Calls prog 59 #[.slice a n cap] W fun e W'=>e=.returned (.tuple #[.slice none 0 0,.int .i64 1])∧Below W.heap.size W W':=by
 have MB:=aj (Ue a n cap L W hn h hb);have hf:Bx.kF L=false:=by cases h:Bx.kF L with
  | false=>rfl
  | true=>exact absurd ((Bx.EU L).1 h) hM
 rw [hf] at MB;clear hn h hb hM hf;go_enter func59,ntmps59;go_wp2_with (go_at_call 101;refine MB.out.mono ?_;rintro e w' ⟨rfl,hB⟩)
 go_ret2
 exact ⟨rfl,hB⟩
theorem Ul (a:Option Addr) (n cap:Nat) (L:List Bx.aY) (W:World) (hn:n=L.length) (h:fP W (.slice a n cap) L) (hM:Bx.May L) (hby:Bx.Bytes L) :
  Calls prog 59 #[.slice a n cap] W fun e W'=>∃ v,e=.returned (.tuple #[v,.int .i64 0])∧Below W.heap.size W W'∧W'.ownsRow W.heap.size 5 1 v (Bx.total L) ((Bx.file L).map aM):=by
 obtain ⟨i0,hi,hz0,hz1,hz2⟩:=info_parts Tryz.infobx5;have hbd:∀ s∈L,(1≤s.1∧s.1≤255)∧s.2.length≤100000:=fun s hs=>by have h1:=Bx.J9 hM.2.1 s hs;have h2:=Bx.size_le hs;have h3:=hM.2.2;unfold Bx.total at h3;omega
 have MB:=aj (Ue a n cap L W hn h (fun s hs=>by have:=hbd s hs;omega));rw [(Bx.EU L).2 hM] at MB;have HN:=aj hn;have HS:=aj h;have HM:=aj hM;have Kn:=aj hby
 have q8:=aj hbd;have Ao:n≤8:=by have:=hM.1;omega
 have htot:=hM.2.2;have hlen:L.length % 256=n:=ak;have HLEN:=aj hlen;clear hn h hM hby hbd hlen;go_enter func59,ntmps59;go_upto_region 3 with (go_at_call 101;refine MB.out.mono ?_;rintro e w1 ⟨rfl,hB1⟩)
 have HB1:=aj hB1;clear hB1 MB;have hz1':=HB1.out.size;have kc:=fun (w:World) (C:Array Value) (n c:Nat)=>Lib.run_convert_bytes_const (P:=prog) w 32 5 C n c underlying32 underlying5;go_wp2_with (at_builtin;refine Ud rfl (.tmp 13) (.tmp 17) 32 rfl 5 i0 _ 1 underlying32 hi hz0 hz1 hz2 rfl w1.heap.size 5 ([84,82,73,86,1].map aM) rfl rfl ?holds (w1.heap.size+1) 1 1 ([n].map aM) rfl rfl ?news ?one aL ?b1 ?b2 ?_)
 case holds=>intro j u hj;rw [World.cell?_alloc_lt _ _ _ aI];rw [fD];simpa [aM] using hj
 case news=>intro j u hj;rw [World.cell?_alloc_at _ _ _ _ aI];simpa [aM] using hj
 case one=>intro u hu;obtain ⟨c,_,rfl⟩:=List.mem_map.1 hu;rfl
 case b1=>unfold maxLen;omega
 case b2=>omega
 intro v4 w4 hown hb4;have hpre:(pre L 0).map aM=[aM 84,aM 82,aM 73,aM 86,aM 1,aM n]:=by unfold pre;rw [HLEN.out];rfl
 have jA:=aj (show w4.ownsRow W.heap.size 5 1 v4 6 ((pre L 0).map aM) by rw [hpre];exact A9 hown ak);have aT:=aj (show Below W.heap.size W w4 from by refine (((HB1.out.alloc hz1' _).alloc (by simp;omega) _)).trans (hb4.mono ak));clear hown hb4 hpre kc;go_wp2;go_loopw [4,21] (fun s4 uL wr=>∃ (i:Nat) (v:Value),i≤n∧uL=.int .i64 i∧s4=v∧Hid (wr.ownsRow W.heap.size 5 1 v (6+7*i) ((pre L i).map aM))∧Hid (Below W.heap.size W wr)) (fun _ uL _=>n-(intOf uL).toNat)
 case atStart=>exact ⟨0,v4,ak,rfl,rfl,jA,aT⟩
 case round=>
  obtain ⟨i,v,hin,rfl,hv,HO,HB⟩:=hrel;have hv2:=hv.symm;subst hv2;clear hv;by_cases hlt:i<n
  · have hlt':i<L.length:=(by rw [←HN.out];exact hlt);obtain ⟨b,off,rfl,hc⟩:=HS.out.get hlt';obtain ⟨ab,cb,d0,d1,h1,h2,hbody⟩:=xH (hc i hlt');have d0:=aD HB.out d0;have d1:=aD HB.out d1;have hbd:=q8.out L[i] (List.getElem_mem _);have hby:=Kn.out L[i] (List.getElem_mem _);have hsn:=Ug L i hlt';generalize L[i]=s at *;obtain ⟨id,body⟩:=s;simp only at *;obtain ⟨k,rfl⟩:∃ k:Nat,id=k:=⟨id.toNat,ak⟩;have hk:(((k:Int) % 256).toNat)=k:=ak;rw [hk] at hsn;have lS:(i:Int)<n:=ak;obtain ⟨m,hm⟩:=aB body.length;rw [←hm] at d1 h1 hbd hsn hbody;unfold maxLen at h2;have oz:=aj hsn;have tF:=aj hbody;have tH:=aj hby
    have hsm:=Cr.sum_lt body hby
    have mF:=HB.out.size;have wE:∀ g,v.ownBlock=some g→W.heap.size≤g∧g<wr.heap.size:=fun g hg=>HO.out.lt g hg;have HOL:=aj wE;clear hc hm hk hsn hby hbody wE;(go_upto_region 7 with fail);obtain ⟨w2,hw2,e0,e1,HB2⟩:=Kk wr (.int .i64 (k:Nat)) (.slice ab m cb) 56;rw [←hw2];have HZ2:=aj (show w2.heap.size=wr.heap.size+1 by rw [hw2];simp);have dw:=aj (aJ HB.out HB2.out);have jN:=aj (xI HO.out HB2.out);have hne2:v.ownBlock≠some wr.heap.size:=fun e=>(by have:=(HOL.out _ e).2;omega);have Ko:=aj hne2;clear hw2 d0 d1 hne2;have hkI:(k:Int) % 256=k:=ak;(go_wp2_with (at_builtin;refine yx rfl (.tmp 25) (.tmp 29) 32 rfl W.heap.size 5 i0 _ 1 underlying32 hi hz0 hz1 hz2 rfl v _ _ ([k].map aM) 1 rfl w2 ?hw rfl jN.out w2.heap.size rfl rfl ?one ?b1 ?b2 ?base ?_));(case hw=>simp [aM]);(case one=>intro u hu;obtain ⟨c,_,rfl⟩:=List.mem_map.1 hu;rfl);(case b1=>unfold maxLen;omega);(case b2=>omega);(case base=>have:=HZ2.out;omega);intro v3 w3 g1 g2 g3;have hz2':=HZ2.out;have G3:tq w2 W.heap.size v (6+7*i+1) (pre L i++[k]) w3 v3:=⟨by rw [List.map_append];exact g1,g2,g3⟩;have f0:w3.cell? ⟨wr.heap.size,0,none⟩=some (.int .i64 (k:Nat)):=(by rw [G3.cell ak Ko.out];exact e0);have f1:w3.cell? ⟨wr.heap.size,1,none⟩=some (.slice ab m cb):=(by rw [G3.cell ak Ko.out];exact e1);have af4:=aj (G3.off ak Ko.out);have HB3:=aj (G3.below jN.out dw.out ak aF);have hz3:wr.heap.size<w3.heap.size:=(by have:=g2.size;omega);have mo:=aj G3;clear g1 g2 g3 G3 e0 e1 dw jN hz2';have T3:=aj (Kj v3 (6+7*i+1) m W.heap.size (pre L i++[k]) w3 mo.out.own ak ak ak);(go_upto_region 9 with (go_at_call 102;refine T3.out.mono ?_;rintro e w4 ⟨v5,rfl,G5⟩));have f2:w4.cell? ⟨wr.heap.size,1,none⟩=some (.slice ab m cb):=(by rw [G5.cell hz3 af4.out];exact f1);have Kq:=aj (G5.below mo.out.own HB3.out ak aF);have oU:=aj G5.own;have oV:W.heap.size≤w4.heap.size:=Kq.out.size;have CS:=aj (TY (tF.out.keep Kq.out) tH.out rfl);clear f0 f1 G5 T3 mo;go_wp2_with (first
     | (go_at_call 103;refine CS.out.mono ?_;rintro e w5 ⟨rfl,cK⟩
        have aO:=aj (show Below W.heap.size W w5 by rw [←cK];exact Kq.out.alloc oV _)
        have ru:=aj (show w5.ownsRow W.heap.size 5 1 v5 (6+7*i+1+3) ((pre L i++[k]++Bx.three m).map aM) by rw [←cK];exact oU.out.alloc _)
        have T5:=aj (Kj v5 (6+7*i+1+3) (Cr.sum body) W.heap.size _ w5 ru.out aO.out.size ak hsm)
        clear cK)
     | (go_at_call 102;refine T5.out.mono ?_;rintro e w6 ⟨v6,rfl,G6⟩))
    have aU:=aj (G6.below ru.out aO.out aO.out.size aF);have hown6:=G6.own;rw [oz.out] at hown6;have lU:=aj hown6;clear G6 hown6;go_roundw
    (case rel=>exact ⟨i+1,v6,ak,aN,rfl,aj (by rw [show 6+7*(i+1)=6+7*i+1+3+3 by omega];exact lU.out),aU⟩);case measure=>simp [intOf];omega
  · obtain rfl:i=n:=ak;have hpa:pre L i=Bx.head L:=(by rw [HN.out];exact Uf L);rw [hpa] at HO;have vE:=Kl (Km L);have hsl:=Cr.sum_lt _ vE;have rz:=Bx.vw L;rw [←HN.out] at rz;have qh:=aj vE;obtain ⟨a5,cap5,hv,_,_,_,_⟩:=rF HO.out;subst hv;have mF:=HB.out.size;have A_:=aj (tC HO.out rz.symm);have CS:=aj (TY A_.out qh.out rfl);have Kr:=aj rz;clear hpa vE rz;go_upto_region 12 with (first
     | (go_at_call 103;refine CS.out.mono ?_;rintro e w5 ⟨rfl,cK⟩
        have aO:=aj (show Below W.heap.size W w5 by rw [←cK];exact HB.out.alloc mF _)
        have ru:=aj (show w5.ownsRow W.heap.size 5 1 (.slice a5 (6+7*i) cap5) (6+7*i) ((Bx.head L).map aM) by rw [←cK];exact HO.out.alloc _)
        have T5:=aj (Kj (.slice a5 (6+7*i) cap5) (6+7*i) (Cr.sum (Bx.head L)) W.heap.size _ w5 ru.out aO.out.size ak hsl)
        clear cK)
     | (go_at_call 102;refine T5.out.mono ?_;rintro e w6 ⟨v6,rfl,G6⟩))
    have aU:=aj (G6.below ru.out aO.out aO.out.size aF);have hown6:=G6.own;rw [Ui] at hown6;have lU:=aj hown6;clear G6 hown6 A_ CS ru T5 aO;have mG:6+7*i+3=(post L 0).length:=(by unfold post;rw [List.length_append,List.length_append,Bx.vw,Bx.AZ,←HN.out];simp [Bx.bodies]);rw [mG] at lU;clear mG HO jA aT Kr hsl mF;go_wp2;go_loopw [4,50] (fun s4 Kt wr=>∃ (j:Nat) (v:Value),j≤i∧Kt=.int .i64 j∧s4=v∧Hid (wr.ownsRow W.heap.size 5 1 v (post L j).length ((post L j).map aM))∧Hid (Below W.heap.size W wr)) (fun _ Kt _=>i-(intOf Kt).toNat)
    (case atStart=>exact ⟨0,v6,ak,rfl,rfl,lU,aU⟩);case round=>
     obtain ⟨j,v,hji,rfl,hv,HO,HB⟩:=hrel;have hv2:=hv.symm;subst hv2;clear hv;by_cases hlt2:j<i
     · have hlt':j<L.length:=(by rw [←HN.out];exact hlt2);obtain ⟨b,off,rfl,hc⟩:=HS.out.get hlt';obtain ⟨ab,cb,d0,d1,h1,h2,hbody⟩:=xH (hc j hlt');have d0:=aD HB.out d0;have d1:=aD HB.out d1;have hbd:=q8.out L[j] (List.getElem_mem _);have hsn:=Uk L j hlt';have hpl:=Uh L (j+1);generalize L[j]=s at *;obtain ⟨id,body⟩:=s;simp only at *;rw [←hsn,List.length_append] at hpl;have lS:(j:Int)<i:=ak;obtain ⟨m,hm⟩:=aB body.length;rw [←hm] at d1 h1 hbd hbody hpl;unfold maxLen at h2;have jW:=aj hm;have oz:=aj hsn;have tF:=aj hbody;have mF:=HB.out.size;have HOL:=aj (fun g hg=>HO.out.lt g hg:∀ g,v.ownBlock=some g→W.heap.size≤g∧g<wr.heap.size);obtain ⟨pl,mG⟩:=aB ((post L j).length);rw [←mG] at HO hpl;have zx:=aj mG;clear hc hm hsn hbody mG;(go_upto_region 15 with fail);obtain ⟨w2,hw2,e0,e1,HB2⟩:=Kk wr (.int .i64 id) (.slice ab m cb) 56;rw [←hw2];have HZ2:=aj (show w2.heap.size=wr.heap.size+1 by rw [hw2];simp);have dw:=aj (aJ HB.out HB2.out);have jN:=aj (xI HO.out HB2.out);have lG:=aj (tF.out.keep dw.out);clear hw2 d0 d1;(go_wp2_with (at_builtin;refine kP rfl (.tmp 54) (.tmp 56) 32 rfl W.heap.size 5 i0 _ 1 underlying32 hi hz0 hz1 hz2 rfl v _ _ rfl jN.out ab m cb (fun t=>aM (body.getD t 0)) rfl ?nil ?row ?one ?b1 ?b2 ?base ?_));(case nil=>obtain ⟨a',c',e,_,_,hn,_⟩:=bD.open lG.out;simp only [Value.slice.injEq] at e;obtain ⟨rfl,_,rfl⟩:=e;intro h;have:=hn h;exact ⟨by rw [jW.out];exact this.1,this.2⟩);(case row=>exact (bD.row lG.out).2);(case one=>intro t _;rfl);(case b1=>unfold maxLen;omega);(case b2=>omega);(case base=>have:=HZ2.out;omega);intro v3 w3 g1 g2;have o_:(List.range m).map (fun t=>aM (body.getD t 0))=body.map aM:=(by rw [jW.out];refine List.ext_getElem aI fun t q1 q2=>?_;simp only [List.getElem_map,List.getElem_range];rw [List.getD,List.getElem?_eq_getElem (by simpa using q2)];rfl);have oh:=aj (show w3.ownsRow W.heap.size 5 1 v3 (post L (j+1)).length ((post L (j+1)).map aM) by rw [←oz.out,List.map_append,List.length_append,←zx.out,←jW.out,←o_];exact g1);have HB3:=aj (dw.out.grown g2 (by have:=HZ2.out;omega) (fun k hk=>(HOL.out k hk).1));clear g1 g2 o_;go_wp2;go_roundw
       (case rel=>exact ⟨j+1,v3,ak,aN,rfl,oh,HB3⟩);case measure=>simp [intOf];omega
     · obtain rfl:j=i:=ak;have hpa:post L j=Bx.file L:=(by rw [HN.out];exact Uj L);rw [hpa,Bx.sZ] at HO;clear hpa;go_wp2;go_ret2
       exact ⟨v,rfl,HB.out,HO.out⟩
end Go.Proofs.YtjaebndajhppgaaGreatDoor
