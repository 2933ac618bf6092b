/-GBx2-/
import Derived.Test.YtjaebndajhppgaaGreatDoorMnGB
import Derived.Test.YtjaebndajhppgaaGreatDoorMnSoFileM
import Derived.Deep.SlicePairs
import Derived.Test.YtjaebndajhppgaaGreatDoorMnGTm2
import Derived.Test.YtjaebndajhppgaaGreatDoorMnGRg2
import Derived.Deep.DeepCutAuto
import Derived.Test.YtjaebndajhppgaaGreatDoorMnGRg3
set_option linter.unusedVariables false
set_option maxRecDepth 100000
set_option linter.unusedSimpArgs false
set_option maxHeartbeats 2000000
namespace Go.Proofs.YtjaebndajhppgaaGreatDoor
open Go.ChangeShapes Go.WideShapes Go.ChangeAt Go.RowKit
def uV (W:World) (b off:Nat) (s:Bx.aO):Prop:=W.cell? ⟨b,off,none⟩=some (.int .i64 s.1)∧∃ v,W.cell? ⟨b,off+1,none⟩=some v∧BytesAt W v s.2
theorem uV.keep {W W':World} {b off:Nat} {s:Bx.aO} (h:uV W b off s) (hb:Below W.heap.size W W'):uV W' b off s:=by obtain ⟨h1,v,h2,h3⟩:=h;exact ⟨ak hb h1,v,ak hb h2,h3.keep hb⟩
def fU (W:World) (v:Value) (L:List Bx.aO):Prop:=∃ (a:Option Addr) (cap:Nat),v=.slice a L.length cap∧L.length≤cap∧cap≤maxLen∧(a=none→cap=0) ∧
 (L.length=0∨∃ b off,a=some ⟨b,off,none⟩∧∀ i (h:i<L.length),uV W b (off+i*2) L[i])
theorem fU.keep {W W':World} {v:Value} {L:List Bx.aO} (h:fU W v L) (hb:Below W.heap.size W W'):fU W' v L:=by obtain ⟨a,cap,h1,h2,h3,h4,h5⟩:=h;refine ⟨a,cap,h1,h2,h3,h4,?_⟩;rcases h5 with h5 | ⟨b,off,e,h5⟩;{exact Or.inl h5};{exact Or.inr ⟨b,off,e,fun i hi=>(h5 i hi).keep hb⟩}
theorem fU.nil (W:World):fU W (.slice none 0 0) []:=⟨none,0,rfl,Nat.le_refl _,by unfold maxLen;omega,fun _=>rfl,Or.inl rfl⟩
theorem fU.get {W:World} {a:Option Addr} {n cap:Nat} {L:List Bx.aO} (h:fU W (.slice a n cap) L) {i:Nat} (hi:i<L.length):∃ b off,a=some ⟨b,off,none⟩∧∀ i (h:i<L.length),uV W b (off+i*2) L[i]:=by obtain ⟨a',cap',e,h2,h3,h4,h5⟩:=h;simp only [Value.slice.injEq] at e;obtain ⟨rfl,rfl,rfl⟩:=e;rcases h5 with h5 | h5;{omega};{exact h5}
theorem fU.open {W:World} {v:Value} {L:List Bx.aO} (h:fU W v L):∃ a cap,v=.slice a L.length cap∧L.length≤cap∧cap≤maxLen∧(a=none→cap=0):=by obtain ⟨a,cap,h1,h2,h3,h4,_⟩:=h;exact ⟨a,cap,h1,h2,h3,h4⟩
section
variable {H:Type} {enc:TypeId×Value→H} {W:World} {base:Nat} {v:Value} {d:DataW H} {p:List MemPlace}
end
open Go.ChangeShapes Go.WideShapes Go.ChangeAt Go.RowKit
theorem Qd {w:World} {P:Program} {ops:Array Oper} {rest:List Oper} {o:Oper} {a:Act} {Q:Exit→Act→World→Prop} (hgd:o.guard=none) (s x:Operand) (t:TypeId)
  (ho:o.op=.call { callee:=.builtin .append,args:=#[s,x],argTypes:=#[t,t] })
  (e:TypeId) (i:TypeInfo) (z:Value) (bytes:Nat) (ht:P.underlying t=some (.slice e)) (hi:P.info? e=some i) (hz:i.zero=some z)
  (hsize:i.size=1) (hby:i.bytes=bytes) (hzs:z.cells.size=1)
  (g n:Nat) (xs:List Value) (hs:a.eval s=.slice (some ⟨g,0,none⟩) n n) (hxl:xs.length=n) (holds:∀ j u,xs[j]?=some u→w.cell? ⟨g,j,none⟩=some u)
  (sg m c:Nat) (us:List Value) (hx:a.eval x=.slice (some ⟨sg,0,none⟩) m c) (hl:us.length=m) (hnews:∀ j u,us[j]?=some u→w.cell? ⟨sg,j,none⟩=some u) (h1:∀ u∈us,u.oneCell'=true)
  (hm:0<m) (h63:n+m≤maxLen) (hbytes:(n+m)*bytes≤140737488355328)
  (h:∀ v' w',w'.ownsRow w.heap.size e 1 v' (n+m) (xs++us)→Below w.heap.size w w'→wpList P ops Q rest (a.put o.dst v') w'):wpList P ops Q (o::rest) a w:=by
 refine wpList_plain hgd fun K hK=>?_;have hsmall:n+m≤9223372036854775807:=by simp only [maxLen] at h63;omega
 subst hby
 have hr:=run_append_grow (P:=P) w t o.type e i z ht hi hz ⟨g,0,none⟩ n n xs (by rw [hsize];omega) (fun j u hu=>by rw [iF rfl,Nat.zero_add];exact holds j u hu) ⟨sg,0,none⟩ m c us (by rw [hsize];omega) (fun j u hu=>by rw [iF rfl,Nat.zero_add];exact hnews j u hu) (by omega) (by omega) (growslice_fits (by omega) hbytes);unfold Oper.wp execOp;simp only [ho,resolve,invoke,builtin,Sem.run_bind,Sem.run_pure,Result.andThen_ok,List.map_toArray,List.map_cons,List.map_nil,hs,hx,hr];refine hK _ _ (h _ _ ⟨by rw [List.length_append];omega,.inr ⟨w.heap.size,_,_,rfl,Nat.le_refl _,heap_alloc_new w.drew _,grownCap_ge w (n+m) n e,grownCap_le_maxLen w (n+m) n e h63,?_,?_⟩⟩ ?_);{have hge:=grownCap_ge w (n+m) n e;simp only [Array.size_append,List.size_toArray,size_zeroCells,hzs,List.length_append];omega};{simp only [Array.toList_append,List.append_assoc];rw [←List.append_assoc,show (n+m)*1=(xs++us).length by rw [List.length_append];omega];exact List.take_left};{exact (Below.refl w.heap.size w).drew.alloc (Nat.le_refl _) _}
theorem Tryz.infobx5:(Tryz.prog.info? 5).map (fun i=>(i.zero,i.size,i.bytes))=some (some (.int .u8 0),1,1):=by kernel_rfl
theorem Hf (n:Nat) (W:World) (hn:n≤1000000):Calls Tryz.prog 136 #[.int .i64 n] W fun e W'=>e=.returned (.int .i64 (9+7*n:Nat))∧W'=W:=by go_enter Tryz.func136,Tryz.ntmps136;go_wp2;go_ret;exact ⟨iQ (by omega),rfl⟩
structure qC (W:World) (base:Nat) (v:Value) (n:Nat) (l:List Nat) (W':World) (v':Value):Prop where
 own:W'.ownsRow base 5 1 v' n (l.map aF)
 rest:W.grownBy W' v.ownBlock
 moved:Moved W v v'
theorem Hg (v:Value) (n k base:Nat) (l:List Nat) (W:World) (hown:W.ownsRow base 5 1 v n (l.map aF)) (hb:base≤W.heap.size) (hn:n≤1000000000) (hk:k<16777216) :
  Calls Tryz.prog 102 #[v,.int .i64 k] W fun e W'=>∃ v',e=.returned v'∧qC W base v (n+3) (l++Bx.three k) W' v':=by
 obtain ⟨i0,hi,hz0,hz1,hz2⟩:=info_parts Tryz.infobx5;obtain ⟨a,cap,rfl,_,_,_,_⟩:=sN hown;have HO:=hid hown;clear hown;have e1:(k:Int) / 65536=((k / 65536 % 256:Nat):Int):=by omega
 have e2:(k:Int) / 256 % 256=((k / 256 % 256:Nat):Int):=by omega
 have e3:(k:Int) % 256=((k % 256:Nat):Int):=by omega
 have EE:=hid (show (#[Value.int .u8 ((k:Int) / 65536),Value.int .u8 ((k:Int) / 256 % 256),Value.int .u8 ((k:Int) % 256)]:Array Value)=((Bx.three k).map aF).toArray by rw [e1,e2,e3];rfl);clear e1 e2 e3;go_enter Tryz.func102,Tryz.ntmps102;go_wp2_with (at_builtin;refine vL rfl (.tmp 5) (.tmp 14) 32 rfl base 5 i0 _ 1 Tryz.underlying32 hi hz0 hz1 hz2 rfl (.slice a n cap) n (l.map aF) ((Bx.three k).map aF) 3 rfl W ?hw rfl HO.out W.heap.size rfl rfl ?one ?b1 ?b2 hb ?_)
 case hw=>rw [EE.out]
 case one=>intro u hu;obtain ⟨c,_,rfl⟩:=List.mem_map.1 hu;rfl
 case b1=>unfold maxLen;omega
 case b2=>omega
 intro v' w' h1 h2 h3;rw [←List.map_append] at h1;have H1:=hid h1;have H2:=hid h2;have H3:=hid h3;clear h1 h2 h3;go_wp2;go_ret;exact ⟨v',rfl,⟨H1.out,H2.out,H3.out⟩⟩
theorem Hl (W:World) (a b:Value) (t:TypeId):∃ w2,w2=W.alloc (.cells #[a,b] t)∧w2.cell? ⟨W.heap.size,0,none⟩=some a∧w2.cell? ⟨W.heap.size,1,none⟩=some b∧Hid (Below W.heap.size W w2):=
 ⟨_,rfl,by simp [go_sem],by simp [go_sem],(Below.refl W.heap.size W).alloc (Nat.le_refl _) _⟩
theorem uW {W:World} {b off:Nat} {s:Bx.aO} (h:uV W b off s):∃ (ab:Option Addr) (cb:Nat),W.cell? ⟨b,off,none⟩=some (.int .i64 s.1)∧W.cell? ⟨b,off+1,none⟩=some (.slice ab s.2.length cb)∧s.2.length≤cb∧cb≤maxLen∧BytesAt W (.slice ab s.2.length cb) s.2:=by obtain ⟨h1,v,h2,h3⟩:=h;obtain ⟨ab,cb,rfl,g1,g2,_,_⟩:=bf.open h3;exact ⟨ab,cb,h1,h2,g1,g2,h3⟩
theorem Qe (a:Option Addr) (n cap:Nat) (L:List Bx.aO) (W:World) (hn:n=L.length) (h:fU W (.slice a n cap) L) (hb:∀ s∈L,-9223372036854775808≤s.1∧s.1≤9223372036854775807∧s.2.length≤140737488351232) :
  Calls Tryz.prog 101 #[.slice a n cap] W fun e W'=>e=.returned (.bool (Bx.g_ L))∧Below W.heap.size W W':=by
 have HN:=hid hn;have HS:=hid h;have oU:=hid hb;have hnm:n≤maxLen:=by obtain ⟨a',cap',e,h1,h2,_⟩:=h;simp only [Value.slice.injEq] at e;omega
 unfold maxLen at hnm;clear hn h hb;by_cases h8:8<n;{have HR:=hid (show Bx.g_ L=false by unfold Bx.g_;rw [decide_eq_false (by have:=HN.out;omega)];rfl);go_enter Tryz.func101,Tryz.ntmps101;go_wp2;go_ret;exact ⟨fK HR.out.symm,Below.refl _ _⟩}
 · have HM:=hid (show Bx.g_ L=(Bx.iD 0 L && decide (Bx.total L≤100000)) by unfold Bx.g_;rw [decide_eq_true (by have:=HN.out;omega),Bool.true_and]);generalize Bx.g_ L=r at *;go_enter Tryz.func101,Tryz.ntmps101;(go_wp2_with (go_at_call 136;refine (Hf n _ (by omega)).mono ?_;rintro e w' ⟨rfl,dx⟩;have oV:=dx.symm;subst oV));go_loopw [3,4,15] (fun s3 s4 s15 wr=>∃ (i z:Nat) (p:Int),i≤n∧s15=.int .i64 i∧s3=.int .i64 z∧z≤1000+140737488351232*i∧s4=.int .i64 p∧Hid (z+Bx.sizes (L.drop i)=Bx.total L)∧Hid (Bx.iD p (L.drop i)=Bx.iD 0 L)∧Hid (Below W.heap.size W wr)) (fun _ _ s15 _=>n-(intOf s15).toNat)
   (case atStart=>exact ⟨0,9+7*n,0,by omega,rfl,rfl,by omega,rfl,hid (by rw [List.drop_zero,HN.out];rfl),hid (by rw [List.drop_zero]),Below.refl _ _⟩);case round=>
    obtain ⟨i,z,p,hin,rfl,rfl,hz,rfl,HZ1,HR,HB⟩:=hrel;by_cases hlt:i<n
    · have hlt':i<L.length:=(by rw [←HN.out];exact hlt);obtain ⟨b,off,rfl,hc⟩:=(HS.out.keep HB.out).get hlt';obtain ⟨ab,cb,d0,d1,h1,h2,_⟩:=uW (hc i hlt');have hbd:=oU.out L[i] (List.getElem_mem _);have hs:=Bx.P5 L i hlt';have hr:=Bx.PZ L p i hlt';have uw:=hid hs;have HR1:=hid hr;generalize L[i]=s at *;obtain ⟨id,body⟩:=s;simp only at *;have lu:(i:Int)<n:=(by omega);obtain ⟨m,hm⟩:∃ m,m=body.length:=⟨_,rfl⟩;rw [←hm] at d1 h1 hbd uw;unfold maxLen at h2;clear hc hs hr hm;(go_upto_region 8 with fail);obtain ⟨w2,hw2,e0,e1,HB2⟩:=Hl wr (.int .i64 id) (.slice ab m cb) 56;rw [←hw2];have bR:=hid (aA HB.out HB2.out);clear hw2 d0 d1;have hz8:z≤1000+140737488351232*8:=(by omega);rcases (show id≤p∨(p<id∧255<id)∨(p<id∧id≤255) by omega) with h3 | ⟨h3,h4⟩ | ⟨h3,h4⟩;{have HF:=hid (show r=false by rw [HM.out,←HR.out,HR1.out,decide_eq_false (by omega)];rfl);go_wp2;go_ret;exact ⟨fK HF.out.symm,bR.out⟩};{have HF:=hid (show r=false by rw [HM.out,←HR.out,HR1.out,decide_eq_false (show ¬ id≤255 by omega),Bool.and_false];rfl);have h3':¬ id≤p:=(by omega);go_wp2;go_ret;exact ⟨fK HF.out.symm,bR.out⟩}
      · have HR2:=hid (show Bx.iD id (L.drop (i+1))=Bx.iD 0 L by rw [←HR.out,HR1.out,decide_eq_true h3,decide_eq_true h4];rfl);have h3':¬ id≤p:=(by omega);go_wp2;go_roundw
        (case rel=>exact ⟨i+1,z+m,id,by omega,by go_num,by go_num,by omega,rfl,hid (by have:=HZ1.out;have:=uw.out;omega),HR2,bR⟩);case measure=>simp [intOf];omega
    {obtain rfl:i=n:=(by omega);have hd:L.drop i=[]:=List.drop_of_length_le (by rw [←HN.out];exact Nat.le_refl _);have hz1:=HZ1.out;have hr:=HR.out;rw [hd] at hz1 hr;have hz2:z=Bx.total L:=hz1;have hr2:Bx.iD 0 L=true:=hr.symm;have HF:=hid (show r=decide ((z:Int)≤100000) by rw [HM.out,hr2,Bool.true_and,hz2,decide_eq_decide];omega);clear hz1 hr hz2 hr2 hd HZ1 HR HM;go_wp2;go_ret;exact ⟨fK HF.out.symm,HB.out⟩}
theorem qC.below {W W' W0:World} {base n B:Nat} {v v':Value} {l k:List Nat} {m:Nat} (G:qC W base v n l W' v') (hown:W.ownsRow base 5 1 v m (k.map aF)) (hB:Below B W0 W) (hb:B≤W.heap.size) (hle:B≤base):Below B W0 W':=
 hB.grown G.rest hb (fun k hk=>Nat.le_trans hle (hown.lt k hk).1)
theorem qC.cell {W W':World} {base n b o:Nat} {v v':Value} {l:List Nat} (G:qC W base v n l W' v') (hb:b<W.heap.size) (hne:v.ownBlock≠some b):W'.cell? ⟨b,o,none⟩=W.cell? ⟨b,o,none⟩:=
 zW (G.rest.block b hb (fun e=>hne e.symm))
theorem qC.off {W W':World} {base n b:Nat} {v v':Value} {l:List Nat} (G:qC W base v n l W' v') (hb:b<W.heap.size) (hne:v.ownBlock≠some b):v'.ownBlock≠some b:=by rcases G.moved with e | ⟨k,e,hk⟩;{rw [e];exact hne};{rw [e];intro h;cases h;omega}
theorem BN {w w':World} {base:Nat} {e:TypeId} {size:Nat} {v:Value} {n:Nat} {xs:List Value} (h:w.ownsRow base e size v n xs) (hb:Below w.heap.size w w'):w'.ownsRow base e size v n xs:=
 h.kept (row:=none) ⟨hb.os,hb.tape,hb.output,hb.size,fun k hk _=>hb.block k hk⟩ (by cases v.ownBlock <;> simp)
theorem yL {w:World} {base base':Nat} {e:TypeId} {size:Nat} {v:Value} {n:Nat} {xs:List Value} (h:w.ownsRow base e size v n xs) (hb:base'≤base):w.ownsRow base' e size v n xs:=by obtain ⟨h1,h2⟩:=h;refine ⟨h1,?_⟩;rcases h2 with h2 | ⟨g,cap,cur,a,b,c⟩;{exact Or.inl h2};{exact Or.inr ⟨g,cap,cur,a,Nat.le_trans hb b,c⟩}
theorem su {w:World} {base:Nat} {v:Value} {n:Nat} {l:List Nat} (h:w.ownsRow base 5 1 v n (l.map aF)) (hn:n=l.length):BytesAt w v l:=bf.own h hn
theorem BQ {l:List Nat} (h:∀ x∈l,x<256):∀ i,l.getD i 0<256:=fun i=>by rcases Nat.lt_or_ge i l.length with hi | hi;{rw [List.getD,List.getElem?_eq_getElem hi];exact h _ (List.getElem_mem _)};{rw [List.getD,List.getElem?_eq_none hi];decide}
theorem adw (L:List Bx.aO):∀ x∈Bx.entries L,x<256:=by intro x hx;unfold Bx.entries at hx;rw [List.mem_flatMap] at hx;obtain ⟨s,_,hs⟩:=hx;unfold Bx.entry Bx.three at hs;simp at hs;omega
theorem Ho (L:List Bx.aO):∀ x∈Bx.head L,x<256:=by intro x hx;unfold Bx.head at hx;rw [List.mem_append] at hx;rcases hx with hx | hx;{simp at hx;omega};{exact adw L x hx}
def pre (L:List Bx.aO) (i:Nat):List Nat:=[84,82,73,86,1,L.length % 256]++Bx.entries (L.take i)
theorem Qf (L:List Bx.aO):pre L L.length=Bx.head L:=by unfold pre Bx.head;rw [List.take_length]
theorem Qg (L:List Bx.aO) (i:Nat) (h:i<L.length):pre L i++[(L[i].1 % 256).toNat]++Bx.three L[i].2.length++Bx.three (Cr.sum L[i].2)=pre L (i+1):=by unfold pre;rw [Bx.adj L i h,Bx.entry];simp
def post (L:List Bx.aO) (i:Nat):List Nat:=Bx.head L++Bx.three (Cr.sum (Bx.head L))++Bx.bodies (L.take i)
theorem Qh (L:List Bx.aO) (i:Nat):(post L i).length≤Bx.total L:=by have:=Bx.BJ L i;unfold post Bx.total;rw [List.length_append,List.length_append,Bx.oP,Bx.GX,Bx.iB];omega
theorem Qi (L:List Bx.aO):Bx.head L++Bx.three (Cr.sum (Bx.head L))=post L 0:=by unfold post;simp [Bx.bodies]
theorem Qj (L:List Bx.aO):post L L.length=Bx.file L:=by unfold post Bx.file;rw [List.take_length]
theorem Qk (L:List Bx.aO) (i:Nat) (h:i<L.length):post L i++L[i].2=post L (i+1):=by unfold post;rw [Bx.adk L i h];simp
theorem adx (a:Option Addr) (n cap:Nat) (L:List Bx.aO) (W:World) (hn:n=L.length) (h:fU W (.slice a n cap) L) (hb:∀ s∈L,-9223372036854775808≤s.1∧s.1≤9223372036854775807∧s.2.length≤140737488351232) (hM:¬ Bx.May L) :
  Calls Tryz.prog 59 #[.slice a n cap] W fun e W'=>e=.returned (.tuple #[.slice none 0 0,.int .i64 1])∧Below W.heap.size W W':=by
 have MB:=hid (Qe a n cap L W hn h hb);have hf:Bx.g_ L=false:=by cases h:Bx.g_ L with
  | false=>rfl
  | true=>exact absurd ((Bx.G7 L).1 h) hM
 rw [hf] at MB;clear hn h hb hM hf;go_enter Tryz.func59,Tryz.ntmps59;go_wp2_with (go_at_call 101;refine MB.out.mono ?_;rintro e w' ⟨rfl,hB⟩)
 go_ret2
 exact ⟨rfl,hB⟩
theorem Ql (a:Option Addr) (n cap:Nat) (L:List Bx.aO) (W:World) (hn:n=L.length) (h:fU W (.slice a n cap) L) (hM:Bx.May L) (hby:Bx.Bytes L) :
  Calls Tryz.prog 59 #[.slice a n cap] W fun e W'=>∃ v,e=.returned (.tuple #[v,.int .i64 0])∧Below W.heap.size W W'∧W'.ownsRow W.heap.size 5 1 v (Bx.total L) ((Bx.file L).map aF):=by
 obtain ⟨i0,hi,hz0,hz1,hz2⟩:=info_parts Tryz.infobx5;have hbd:∀ s∈L,(1≤s.1∧s.1≤255)∧s.2.length≤100000:=fun s hs=>by have h1:=Bx.GY hM.2.1 s hs;have h2:=Bx.size_le hs;have h3:=hM.2.2;unfold Bx.total at h3;omega
 have MB:=hid (Qe a n cap L W hn h (fun s hs=>by have:=hbd s hs;omega));rw [(Bx.G7 L).2 hM] at MB;have HN:=hid hn;have HS:=hid h;have HM:=hid hM;have Hq:=hid hby
 have oU:=hid hbd;have xY:n≤8:=by have:=hM.1;omega
 have htot:=hM.2.2;have hlen:L.length % 256=n:=by omega
 have HLEN:=hid hlen;clear hn h hM hby hbd hlen;go_enter Tryz.func59,Tryz.ntmps59;go_upto_region 3 with (go_at_call 101;refine MB.out.mono ?_;rintro e w1 ⟨rfl,hB1⟩)
 have HB1:=hid hB1;clear hB1 MB;have hz1':=HB1.out.size;have kc:=fun (w:World) (C:Array Value) (n c:Nat)=>Lib.run_convert_bytes_const (P:=Tryz.prog) w 32 5 C n c Tryz.underlying32 Tryz.underlying5;go_wp2_with (at_builtin;refine Qd rfl (.tmp 13) (.tmp 17) 32 rfl 5 i0 _ 1 Tryz.underlying32 hi hz0 hz1 hz2 rfl w1.heap.size 5 ([84,82,73,86,1].map aF) rfl rfl ?holds (w1.heap.size+1) 1 1 ([n].map aF) rfl rfl ?news ?one (by decide) ?b1 ?b2 ?_)
 case holds=>intro j u hj;rw [World.cell?_alloc_lt _ _ _ (by simp)];rw [eU];simpa [aF] using hj
 case news=>intro j u hj;rw [World.cell?_alloc_at _ _ _ _ (by simp)];simpa [aF] using hj
 case one=>intro u hu;obtain ⟨c,_,rfl⟩:=List.mem_map.1 hu;rfl
 case b1=>unfold maxLen;omega
 case b2=>omega
 intro v4 w4 hown hb4;have hpre:(pre L 0).map aF=[aF 84,aF 82,aF 73,aF 86,aF 1,aF n]:=by unfold pre;rw [HLEN.out];rfl
 have lK:=hid (show w4.ownsRow W.heap.size 5 1 v4 6 ((pre L 0).map aF) by rw [hpre];exact yL hown (by omega));have aI:=hid (show Below W.heap.size W w4 from by refine (((HB1.out.alloc hz1' _).alloc (by simp;omega) _)).trans (hb4.mono (by omega)));clear hown hb4 hpre kc;go_wp2;go_loopw [4,21] (fun s4 rC wr=>∃ (i:Nat) (v:Value),i≤n∧rC=.int .i64 i∧s4=v∧Hid (wr.ownsRow W.heap.size 5 1 v (6+7*i) ((pre L i).map aF))∧Hid (Below W.heap.size W wr)) (fun _ rC _=>n-(intOf rC).toNat)
 case atStart=>exact ⟨0,v4,by omega,rfl,rfl,lK,aI⟩
 case round=>
  obtain ⟨i,v,hin,rfl,hv,HO,HB⟩:=hrel;have hv2:=hv.symm;subst hv2;clear hv;by_cases hlt:i<n
  · have hlt':i<L.length:=(by rw [←HN.out];exact hlt);obtain ⟨b,off,rfl,hc⟩:=HS.out.get hlt';obtain ⟨ab,cb,d0,d1,h1,h2,hbody⟩:=uW (hc i hlt');have d0:=ak HB.out d0;have d1:=ak HB.out d1;have hbd:=oU.out L[i] (List.getElem_mem _);have hby:=Hq.out L[i] (List.getElem_mem _);have hsn:=Qg L i hlt';generalize L[i]=s at *;obtain ⟨id,body⟩:=s;simp only at *;obtain ⟨k,rfl⟩:∃ k:Nat,id=k:=⟨id.toNat,by omega⟩;have hk:(((k:Int) % 256).toNat)=k:=(by omega);rw [hk] at hsn;have lu:(i:Int)<n:=(by omega);obtain ⟨m,hm⟩:∃ m,m=body.length:=⟨_,rfl⟩;rw [←hm] at d1 h1 hbd hsn hbody;unfold maxLen at h2;have mI:=hid hsn;have qD:=hid hbody;have uX:=hid hby
    have hsm:=Cr.sum_lt body hby
    have kR:=HB.out.size;have tL:∀ g,v.ownBlock=some g→W.heap.size≤g∧g<wr.heap.size:=fun g hg=>HO.out.lt g hg;have HOL:=hid tL;clear hc hm hk hsn hby hbody tL;(go_upto_region 7 with fail);obtain ⟨w2,hw2,e0,e1,HB2⟩:=Hl wr (.int .i64 (k:Nat)) (.slice ab m cb) 56;rw [←hw2];have HZ2:=hid (show w2.heap.size=wr.heap.size+1 by rw [hw2];simp);have bR:=hid (aA HB.out HB2.out);have jl:=hid (BN HO.out HB2.out);have hne2:v.ownBlock≠some wr.heap.size:=fun e=>(by have:=(HOL.out _ e).2;omega);have Hr:=hid hne2;clear hw2 d0 d1 hne2;have hkI:(k:Int) % 256=k:=(by omega);(go_wp2_with (at_builtin;refine vL rfl (.tmp 25) (.tmp 29) 32 rfl W.heap.size 5 i0 _ 1 Tryz.underlying32 hi hz0 hz1 hz2 rfl v _ _ ([k].map aF) 1 rfl w2 ?hw rfl jl.out w2.heap.size rfl rfl ?one ?b1 ?b2 ?base ?_));(case hw=>simp [aF]);(case one=>intro u hu;obtain ⟨c,_,rfl⟩:=List.mem_map.1 hu;rfl);(case b1=>unfold maxLen;omega);(case b2=>omega);(case base=>have:=HZ2.out;omega);intro v3 w3 g1 g2 g3;have hz2':=HZ2.out;have G3:qC w2 W.heap.size v (6+7*i+1) (pre L i++[k]) w3 v3:=⟨by rw [List.map_append];exact g1,g2,g3⟩;have f0:w3.cell? ⟨wr.heap.size,0,none⟩=some (.int .i64 (k:Nat)):=(by rw [G3.cell (by omega) Hr.out];exact e0);have f1:w3.cell? ⟨wr.heap.size,1,none⟩=some (.slice ab m cb):=(by rw [G3.cell (by omega) Hr.out];exact e1);have ady:=hid (G3.off (by omega) Hr.out);have HB3:=hid (G3.below jl.out bR.out (by omega) (Nat.le_refl _));have hz3:wr.heap.size<w3.heap.size:=(by have:=g2.size;omega);have kQ:=hid G3;clear g1 g2 g3 G3 e0 e1 bR jl hz2';have T3:=hid (Hg v3 (6+7*i+1) m W.heap.size (pre L i++[k]) w3 kQ.out.own (by omega) (by omega) (by omega));(go_upto_region 9 with (go_at_call 102;refine T3.out.mono ?_;rintro e w4 ⟨v5,rfl,G5⟩));have f2:w4.cell? ⟨wr.heap.size,1,none⟩=some (.slice ab m cb):=(by rw [G5.cell hz3 ady.out];exact f1);have Ht:=hid (G5.below kQ.out.own HB3.out (by omega) (Nat.le_refl _));have mX:=hid G5.own;have pO:W.heap.size≤w4.heap.size:=Ht.out.size;have CS:=hid (P8 (qD.out.keep Ht.out) uX.out rfl);clear f0 f1 G5 T3 kQ;go_wp2_with (first
     | (go_at_call 103;refine CS.out.mono ?_;rintro e w5 ⟨rfl,bQ⟩
        have aH:=hid (show Below W.heap.size W w5 by rw [←bQ];exact Ht.out.alloc pO _)
        have oW:=hid (show w5.ownsRow W.heap.size 5 1 v5 (6+7*i+1+3) ((pre L i++[k]++Bx.three m).map aF) by rw [←bQ];exact mX.out.alloc _)
        have T5:=hid (Hg v5 (6+7*i+1+3) (Cr.sum body) W.heap.size _ w5 oW.out aH.out.size (by omega) hsm)
        clear bQ)
     | (go_at_call 102;refine T5.out.mono ?_;rintro e w6 ⟨v6,rfl,G6⟩))
    have aP:=hid (G6.below oW.out aH.out aH.out.size (Nat.le_refl _));have hown6:=G6.own;rw [mI.out] at hown6;have kG:=hid hown6;clear G6 hown6;go_roundw
    (case rel=>exact ⟨i+1,v6,by omega,by go_num,rfl,hid (by rw [show 6+7*(i+1)=6+7*i+1+3+3 by omega];exact kG.out),aP⟩);case measure=>simp [intOf];omega
  · obtain rfl:i=n:=(by omega);have hpa:pre L i=Bx.head L:=(by rw [HN.out];exact Qf L);rw [hpa] at HO;have sw:=BQ (Ho L);have hsl:=Cr.sum_lt _ sw;have nI:=Bx.oP L;rw [←HN.out] at nI;have wO:=hid sw;obtain ⟨a5,cap5,hv,_,_,_,_⟩:=sN HO.out;subst hv;have kR:=HB.out.size;have yM:=hid (su HO.out nI.symm);have CS:=hid (P8 yM.out wO.out rfl);have Hu:=hid nI;clear hpa sw nI;go_upto_region 12 with (first
     | (go_at_call 103;refine CS.out.mono ?_;rintro e w5 ⟨rfl,bQ⟩
        have aH:=hid (show Below W.heap.size W w5 by rw [←bQ];exact HB.out.alloc kR _)
        have oW:=hid (show w5.ownsRow W.heap.size 5 1 (.slice a5 (6+7*i) cap5) (6+7*i) ((Bx.head L).map aF) by rw [←bQ];exact HO.out.alloc _)
        have T5:=hid (Hg (.slice a5 (6+7*i) cap5) (6+7*i) (Cr.sum (Bx.head L)) W.heap.size _ w5 oW.out aH.out.size (by omega) hsl)
        clear bQ)
     | (go_at_call 102;refine T5.out.mono ?_;rintro e w6 ⟨v6,rfl,G6⟩))
    have aP:=hid (G6.below oW.out aH.out aH.out.size (Nat.le_refl _));have hown6:=G6.own;rw [Qi] at hown6;have kG:=hid hown6;clear G6 hown6 yM CS oW T5 aH;have kS:6+7*i+3=(post L 0).length:=(by unfold post;rw [List.length_append,List.length_append,Bx.oP,Bx.iB,←HN.out];simp [Bx.bodies]);rw [kS] at kG;clear kS HO lK aI Hu hsl kR;go_wp2;go_loopw [4,50] (fun s4 Hw wr=>∃ (j:Nat) (v:Value),j≤i∧Hw=.int .i64 j∧s4=v∧Hid (wr.ownsRow W.heap.size 5 1 v (post L j).length ((post L j).map aF))∧Hid (Below W.heap.size W wr)) (fun _ Hw _=>i-(intOf Hw).toNat)
    (case atStart=>exact ⟨0,v6,by omega,rfl,rfl,kG,aP⟩);case round=>
     obtain ⟨j,v,hji,rfl,hv,HO,HB⟩:=hrel;have hv2:=hv.symm;subst hv2;clear hv;by_cases hlt2:j<i
     · have hlt':j<L.length:=(by rw [←HN.out];exact hlt2);obtain ⟨b,off,rfl,hc⟩:=HS.out.get hlt';obtain ⟨ab,cb,d0,d1,h1,h2,hbody⟩:=uW (hc j hlt');have d0:=ak HB.out d0;have d1:=ak HB.out d1;have hbd:=oU.out L[j] (List.getElem_mem _);have hsn:=Qk L j hlt';have hpl:=Qh L (j+1);generalize L[j]=s at *;obtain ⟨id,body⟩:=s;simp only at *;rw [←hsn,List.length_append] at hpl;have lu:(j:Int)<i:=(by omega);obtain ⟨m,hm⟩:∃ m,m=body.length:=⟨_,rfl⟩;rw [←hm] at d1 h1 hbd hbody hpl;unfold maxLen at h2;have jr:=hid hm;have mI:=hid hsn;have qD:=hid hbody;have kR:=HB.out.size;have HOL:=hid (fun g hg=>HO.out.lt g hg:∀ g,v.ownBlock=some g→W.heap.size≤g∧g<wr.heap.size);obtain ⟨pl,kS⟩:∃ pl,pl=(post L j).length:=⟨_,rfl⟩;rw [←kS] at HO hpl;have wJ:=hid kS;clear hc hm hsn hbody kS;(go_upto_region 15 with fail);obtain ⟨w2,hw2,e0,e1,HB2⟩:=Hl wr (.int .i64 id) (.slice ab m cb) 56;rw [←hw2];have HZ2:=hid (show w2.heap.size=wr.heap.size+1 by rw [hw2];simp);have bR:=hid (aA HB.out HB2.out);have jl:=hid (BN HO.out HB2.out);have nJ:=hid (qD.out.keep bR.out);clear hw2 d0 d1;(go_wp2_with (at_builtin;refine jQ rfl (.tmp 54) (.tmp 56) 32 rfl W.heap.size 5 i0 _ 1 Tryz.underlying32 hi hz0 hz1 hz2 rfl v _ _ rfl jl.out ab m cb (fun t=>aF (body.getD t 0)) rfl ?nil ?row ?one ?b1 ?b2 ?base ?_));(case nil=>obtain ⟨a',c',e,_,_,hn,_⟩:=bf.open nJ.out;simp only [Value.slice.injEq] at e;obtain ⟨rfl,_,rfl⟩:=e;intro h;have:=hn h;exact ⟨by rw [jr.out];exact this.1,this.2⟩);(case row=>exact (bf.row nJ.out).2);(case one=>intro t _;rfl);(case b1=>unfold maxLen;omega);(case b2=>omega);(case base=>have:=HZ2.out;omega);intro v3 w3 g1 g2;have ng:(List.range m).map (fun t=>aF (body.getD t 0))=body.map aF:=(by rw [jr.out];refine List.ext_getElem (by simp) fun t q1 q2=>?_;simp only [List.getElem_map,List.getElem_range];rw [List.getD,List.getElem?_eq_getElem (by simpa using q2)];rfl);have mq:=hid (show w3.ownsRow W.heap.size 5 1 v3 (post L (j+1)).length ((post L (j+1)).map aF) by rw [←mI.out,List.map_append,List.length_append,←wJ.out,←jr.out,←ng];exact g1);have HB3:=hid (bR.out.grown g2 (by have:=HZ2.out;omega) (fun k hk=>(HOL.out k hk).1));clear g1 g2 ng;go_wp2;go_roundw
       (case rel=>exact ⟨j+1,v3,by omega,by go_num,rfl,mq,HB3⟩);case measure=>simp [intOf];omega
     · obtain rfl:j=i:=(by omega);have hpa:post L j=Bx.file L:=(by rw [HN.out];exact Qj L);rw [hpa,Bx.jO] at HO;clear hpa;go_wp2;go_ret2
       exact ⟨v,rfl,HB.out,HO.out⟩
end Go.Proofs.YtjaebndajhppgaaGreatDoor
