/-GRe2-/
import Derived.Test.YtjaebndajhppgaaGreatDoorMnGTm1
import Derived.Test.YtjaebndajhppgaaGreatDoorMnSoFileM
import Derived.Deep.SlicePairs
import Derived.Test.YtjaebndajhppgaaGreatDoorMnGTm2
import Derived.Test.YtjaebndajhppgaaGreatDoorMnGRg2
import Derived.Deep.DeepCutAuto
import Derived.Test.YtjaebndajhppgaaGreatDoorMnGRg3
import Derived.Test.YtjaebndajhppgaaGreatDoorMnGPr1
set_option linter.unusedVariables false
set_option maxRecDepth 100000
set_option linter.unusedSimpArgs false
set_option maxHeartbeats 8000000
namespace Go.Proofs.YtjaebndajhppgaaGreatDoor
open Go.ChangeShapes Go.WideShapes Go.ChangeAt Go.RowKit
def SecCells (W:World) (b off:Nat) (s:Bx.Sec):Prop:=W.cell? ⟨b,off,none⟩=some (.int .i64 s.1)∧∃ v,W.cell? ⟨b,off+1,none⟩=some v∧BytesAt W v s.2
theorem SecCells.keep {W W':World} {b off:Nat} {s:Bx.Sec} (h:SecCells W b off s) (hb:Below W.heap.size W W'):SecCells W' b off s:=by
 obtain ⟨h1,v,h2,h3⟩:=h
 exact ⟨below_keep hb h1,v,below_keep hb h2,h3.keep hb⟩
def SecsAt (W:World) (v:Value) (L:List Bx.Sec):Prop:=∃ (a:Option Addr) (cap:Nat),v=.slice a L.length cap∧L.length≤cap∧cap≤maxLen∧(a=none→cap=0) ∧
 (L.length=0∨∃ b off,a=some ⟨b,off,none⟩∧∀ i (h:i<L.length),SecCells W b (off+i*2) L[i])
theorem SecsAt.keep {W W':World} {v:Value} {L:List Bx.Sec} (h:SecsAt W v L) (hb:Below W.heap.size W W'):SecsAt W' v L:=by
 obtain ⟨a,cap,h1,h2,h3,h4,h5⟩:=h
 refine ⟨a,cap,h1,h2,h3,h4,?_⟩
 rcases h5 with h5 | ⟨b,off,e,h5⟩
 · exact Or.inl h5
 · exact Or.inr ⟨b,off,e,fun i hi=>(h5 i hi).keep hb⟩
theorem SecsAt.nil (W:World):SecsAt W (.slice none 0 0) []:=⟨none,0,rfl,Nat.le_refl _,by unfold maxLen;omega,fun _=>rfl,Or.inl rfl⟩
theorem SecsAt.get {W:World} {a:Option Addr} {n cap:Nat} {L:List Bx.Sec} (h:SecsAt W (.slice a n cap) L) {i:Nat} (hi:i<L.length):∃ b off,a=some ⟨b,off,none⟩∧∀ i (h:i<L.length),SecCells W b (off+i*2) L[i]:=by
 obtain ⟨a',cap',e,h2,h3,h4,h5⟩:=h
 simp only [Value.slice.injEq] at e
 obtain ⟨rfl,rfl,rfl⟩:=e
 rcases h5 with h5 | h5
 · omega
 · exact h5
theorem SecsAt.open {W:World} {v:Value} {L:List Bx.Sec} (h:SecsAt W v L):∃ a cap,v=.slice a L.length cap∧L.length≤cap∧cap≤maxLen∧(a=none→cap=0):=by
 obtain ⟨a,cap,h1,h2,h3,h4,_⟩:=h
 exact ⟨a,cap,h1,h2,h3,h4⟩
section
variable {H:Type} {enc:TypeId×Value→H} {W:World} {base:Nat} {v:Value} {d:DataW H} {p:List MemPlace}
end
open Go.ChangeShapes Go.WideShapes Go.ChangeAt Go.RowKit
theorem wpList_append_full {w:World} {P:Program} {ops:Array Oper} {rest:List Oper} {o:Oper} {a:Act} {Q:Exit→Act→World→Prop} (hgd:o.guard=none) (s x:Operand) (t:TypeId)
  (ho:o.op=.call { callee:=.builtin .append,args:=#[s,x],argTypes:=#[t,t] })
  (e:TypeId) (i:TypeInfo) (z:Value) (bytes:Nat) (ht:P.underlying t=some (.slice e)) (hi:P.info? e=some i) (hz:i.zero=some z)
  (hsize:i.size=1) (hby:i.bytes=bytes) (hzs:z.cells.size=1)
  (g n:Nat) (xs:List Value) (hs:a.eval s=.slice (some ⟨g,0,none⟩) n n) (hxl:xs.length=n) (holds:∀ j u,xs[j]?=some u→w.cell? ⟨g,j,none⟩=some u)
  (sg m c:Nat) (us:List Value) (hx:a.eval x=.slice (some ⟨sg,0,none⟩) m c) (hl:us.length=m) (hnews:∀ j u,us[j]?=some u→w.cell? ⟨sg,j,none⟩=some u) (h1:∀ u∈us,u.oneCell'=true)
  (hm:0<m) (h63:n+m≤maxLen) (hbytes:(n+m)*bytes≤140737488355328)
  (h:∀ v' w',w'.ownsRow w.heap.size e 1 v' (n+m) (xs++us)→Below w.heap.size w w'→wpList P ops Q rest (a.put o.dst v') w'):wpList P ops Q (o::rest) a w:=by
 refine wpList_plain hgd fun K hK=>?_
 have hsmall:n+m≤9223372036854775807:=by simp only [maxLen] at h63;omega
 subst hby
 have hr:=run_append_grow (P:=P) w t o.type e i z ht hi hz ⟨g,0,none⟩ n n xs (by rw [hsize];omega) (fun j u hu=>by rw [add_cell rfl,Nat.zero_add];exact holds j u hu) ⟨sg,0,none⟩ m c us (by rw [hsize];omega) (fun j u hu=>by rw [add_cell rfl,Nat.zero_add];exact hnews j u hu) (by omega) (by omega) (growslice_fits (by omega) hbytes)
 unfold Oper.wp execOp
 simp only [ho,resolve,invoke,builtin,Sem.run_bind,Sem.run_pure,Result.andThen_ok,List.map_toArray,List.map_cons,List.map_nil,hs,hx,hr]
 refine hK _ _ (h _ _ ⟨by rw [List.length_append];omega,.inr ⟨w.heap.size,_,_,rfl,Nat.le_refl _,heap_alloc_new w.drew _,grownCap_ge w (n+m) n e,grownCap_le_maxLen w (n+m) n e h63,?_,?_⟩⟩ ?_)
 · have hge:=grownCap_ge w (n+m) n e
   simp only [Array.size_append,List.size_toArray,size_zeroCells,hzs,List.length_append]
   omega
 · simp only [Array.toList_append,List.append_assoc]
   rw [←List.append_assoc,show (n+m)*1=(xs++us).length by rw [List.length_append];omega]
   exact List.take_left
 · exact (Below.refl w.heap.size w).drew.alloc (Nat.le_refl _) _
theorem Tryz.infobx5:(Tryz.prog.info? 5).map (fun i=>(i.zero,i.size,i.bytes))=some (some (.int .u8 0),1,1):=by kernel_rfl
theorem hsize_any (n:Nat) (W:World) (hn:n≤1000000):Calls Tryz.prog 136 #[.int .i64 n] W fun e W'=>e=.returned (.int .i64 (9+7*n:Nat))∧W'=W:=by
 go_enter Tryz.func136,Tryz.ntmps136
 go_wp2
 go_ret
 exact ⟨ret_int (by omega),rfl⟩
structure Grew (W:World) (base:Nat) (v:Value) (n:Nat) (l:List Nat) (W':World) (v':Value):Prop where
 own:W'.ownsRow base 5 1 v' n (l.map u8v)
 rest:W.grownBy W' v.ownBlock
 moved:Moved W v v'
theorem app3_any (v:Value) (n k base:Nat) (l:List Nat) (W:World) (hown:W.ownsRow base 5 1 v n (l.map u8v)) (hb:base≤W.heap.size) (hn:n≤1000000000) (hk:k<16777216) :
  Calls Tryz.prog 102 #[v,.int .i64 k] W fun e W'=>∃ v',e=.returned v'∧Grew W base v (n+3) (l++Bx.three k) W' v':=by
 obtain ⟨i0,hi,hz0,hz1,hz2⟩:=info_parts Tryz.infobx5
 obtain ⟨a,cap,rfl,_,_,_,_⟩:=rowAt_own hown
 have HO:=hid hown
 clear hown
 have e1:(k:Int) / 65536=((k / 65536 % 256:Nat):Int):=by omega
 have e2:(k:Int) / 256 % 256=((k / 256 % 256:Nat):Int):=by omega
 have e3:(k:Int) % 256=((k % 256:Nat):Int):=by omega
 have EE:=hid (show (#[Value.int .u8 ((k:Int) / 65536),Value.int .u8 ((k:Int) / 256 % 256),Value.int .u8 ((k:Int) % 256)]:Array Value)=((Bx.three k).map u8v).toArray by rw [e1,e2,e3];rfl)
 clear e1 e2 e3
 go_enter Tryz.func102,Tryz.ntmps102
 go_wp2_with (at_builtin;refine wpList_append_many rfl (.tmp 5) (.tmp 14) 32 rfl base 5 i0 _ 1 Tryz.underlying32 hi hz0 hz1 hz2 rfl (.slice a n cap) n (l.map u8v) ((Bx.three k).map u8v) 3 rfl W ?hw rfl HO.out W.heap.size rfl rfl ?one ?b1 ?b2 hb ?_)
 case hw=>rw [EE.out]
 case one=>intro u hu;obtain ⟨c,_,rfl⟩:=List.mem_map.1 hu;rfl
 case b1=>unfold maxLen;omega
 case b2=>omega
 intro v' w' h1 h2 h3
 rw [←List.map_append] at h1
 have H1:=hid h1
 have H2:=hid h2
 have H3:=hid h3
 clear h1 h2 h3
 go_wp2
 go_ret
 exact ⟨v',rfl,⟨H1.out,H2.out,H3.out⟩⟩
theorem pair_box (W:World) (a b:Value) (t:TypeId):∃ w2,w2=W.alloc (.cells #[a,b] t)∧w2.cell? ⟨W.heap.size,0,none⟩=some a∧w2.cell? ⟨W.heap.size,1,none⟩=some b∧Hid (Below W.heap.size W w2):=
 ⟨_,rfl,by simp [go_sem],by simp [go_sem],(Below.refl W.heap.size W).alloc (Nat.le_refl _) _⟩
theorem sec_open {W:World} {b off:Nat} {s:Bx.Sec} (h:SecCells W b off s):∃ (ab:Option Addr) (cb:Nat),W.cell? ⟨b,off,none⟩=some (.int .i64 s.1)∧W.cell? ⟨b,off+1,none⟩=some (.slice ab s.2.length cb)∧s.2.length≤cb∧cb≤maxLen∧BytesAt W (.slice ab s.2.length cb) s.2:=by
 obtain ⟨h1,v,h2,h3⟩:=h
 obtain ⟨ab,cb,rfl,g1,g2,_,_⟩:=SlAt.open h3
 exact ⟨ab,cb,h1,h2,g1,g2,h3⟩
theorem bmay_any (a:Option Addr) (n cap:Nat) (L:List Bx.Sec) (W:World) (hn:n=L.length) (h:SecsAt W (.slice a n cap) L) (hb:∀ s∈L,-9223372036854775808≤s.1∧s.1≤9223372036854775807∧s.2.length≤140737488351232) :
  Calls Tryz.prog 101 #[.slice a n cap] W fun e W'=>e=.returned (.bool (Bx.mayB L))∧Below W.heap.size W W':=by
 have HN:=hid hn
 have HS:=hid h
 have HBD:=hid hb
 have hnm:n≤maxLen:=by
  obtain ⟨a',cap',e,h1,h2,_⟩:=h
  simp only [Value.slice.injEq] at e
  omega
 unfold maxLen at hnm
 clear hn h hb
 by_cases h8:8<n
 · have HR:=hid (show Bx.mayB L=false by unfold Bx.mayB;rw [decide_eq_false (by have:=HN.out;omega)];rfl)
   go_enter Tryz.func101,Tryz.ntmps101
   go_wp2
   go_ret
   exact ⟨ret_bool HR.out.symm,Below.refl _ _⟩
 · have HM:=hid (show Bx.mayB L=(Bx.riseB 0 L && decide (Bx.total L≤100000)) by unfold Bx.mayB;rw [decide_eq_true (by have:=HN.out;omega),Bool.true_and])
   generalize Bx.mayB L=r at *
   go_enter Tryz.func101,Tryz.ntmps101
   go_wp2_with (go_at_call 136;refine (hsize_any n _ (by omega)).mono ?_;rintro e w' ⟨rfl,hww⟩;have hww':=hww.symm;subst hww')
   go_loopw [3,4,15] (fun s3 s4 s15 wr=>∃ (i z:Nat) (p:Int),i≤n∧s15=.int .i64 i∧s3=.int .i64 z∧z≤1000+140737488351232*i∧s4=.int .i64 p∧Hid (z+Bx.sizes (L.drop i)=Bx.total L)∧Hid (Bx.riseB p (L.drop i)=Bx.riseB 0 L)∧Hid (Below W.heap.size W wr)) (fun _ _ s15 _=>n-(intOf s15).toNat)
   case atStart=>exact ⟨0,9+7*n,0,by omega,rfl,rfl,by omega,rfl,hid (by rw [List.drop_zero,HN.out];rfl),hid (by rw [List.drop_zero]),Below.refl _ _⟩
   case round=>
    obtain ⟨i,z,p,hin,rfl,rfl,hz,rfl,HZ1,HR,HB⟩:=hrel
    by_cases hlt:i<n
    · have hlt':i<L.length:=by rw [←HN.out];exact hlt
      obtain ⟨b,off,rfl,hc⟩:=(HS.out.keep HB.out).get hlt'
      obtain ⟨ab,cb,d0,d1,h1,h2,_⟩:=sec_open (hc i hlt')
      have hbd:=HBD.out L[i] (List.getElem_mem _)
      have hs:=Bx.sizes_drop L i hlt'
      have hr:=Bx.riseB_drop L p i hlt'
      have HS1:=hid hs
      have HR1:=hid hr
      generalize L[i]=s at *
      obtain ⟨id,body⟩:=s
      simp only at *
      have hltI:(i:Int)<n:=by omega
      obtain ⟨m,hm⟩:∃ m,m=body.length:=⟨_,rfl⟩
      rw [←hm] at d1 h1 hbd HS1
      unfold maxLen at h2
      clear hc hs hr hm
      go_upto_region 8 with fail
      obtain ⟨w2,hw2,e0,e1,HB2⟩:=pair_box wr (.int .i64 id) (.slice ab m cb) 56
      rw [←hw2]
      have HBB:=hid (below_then HB.out HB2.out)
      clear hw2 d0 d1
      have hz8:z≤1000+140737488351232*8:=by omega
      rcases (show id≤p∨(p<id∧255<id)∨(p<id∧id≤255) by omega) with h3 | ⟨h3,h4⟩ | ⟨h3,h4⟩
      · have HF:=hid (show r=false by rw [HM.out,←HR.out,HR1.out,decide_eq_false (by omega)];rfl)
        go_wp2
        go_ret
        exact ⟨ret_bool HF.out.symm,HBB.out⟩
      · have HF:=hid (show r=false by rw [HM.out,←HR.out,HR1.out,decide_eq_false (show ¬ id≤255 by omega),Bool.and_false];rfl)
        have h3':¬ id≤p:=by omega
        go_wp2
        go_ret
        exact ⟨ret_bool HF.out.symm,HBB.out⟩
      · have HR2:=hid (show Bx.riseB id (L.drop (i+1))=Bx.riseB 0 L by rw [←HR.out,HR1.out,decide_eq_true h3,decide_eq_true h4];rfl)
        have h3':¬ id≤p:=by omega
        go_wp2
        go_roundw
        case rel=>exact ⟨i+1,z+m,id,by omega,by go_num,by go_num,by omega,rfl,hid (by have:=HZ1.out;have:=HS1.out;omega),HR2,HBB⟩
        case measure=>simp [intOf];omega
    · obtain rfl:i=n:=by omega
      have hd:L.drop i=[]:=List.drop_of_length_le (by rw [←HN.out];exact Nat.le_refl _)
      have hz1:=HZ1.out
      have hr:=HR.out
      rw [hd] at hz1 hr
      have hz2:z=Bx.total L:=hz1
      have hr2:Bx.riseB 0 L=true:=hr.symm
      have HF:=hid (show r=decide ((z:Int)≤100000) by rw [HM.out,hr2,Bool.true_and,hz2,decide_eq_decide];omega)
      clear hz1 hr hz2 hr2 hd HZ1 HR HM
      go_wp2
      go_ret
      exact ⟨ret_bool HF.out.symm,HB.out⟩
theorem Grew.below {W W' W0:World} {base n B:Nat} {v v':Value} {l k:List Nat} {m:Nat} (G:Grew W base v n l W' v') (hown:W.ownsRow base 5 1 v m (k.map u8v)) (hB:Below B W0 W) (hb:B≤W.heap.size) (hle:B≤base):Below B W0 W':=
 hB.grown G.rest hb (fun k hk=>Nat.le_trans hle (hown.lt k hk).1)
theorem Grew.cell {W W':World} {base n b o:Nat} {v v':Value} {l:List Nat} (G:Grew W base v n l W' v') (hb:b<W.heap.size) (hne:v.ownBlock≠some b):W'.cell? ⟨b,o,none⟩=W.cell? ⟨b,o,none⟩:=
 cell_heap (G.rest.block b hb (fun e=>hne e.symm))
theorem Grew.off {W W':World} {base n b:Nat} {v v':Value} {l:List Nat} (G:Grew W base v n l W' v') (hb:b<W.heap.size) (hne:v.ownBlock≠some b):v'.ownBlock≠some b:=by
 rcases G.moved with e | ⟨k,e,hk⟩
 · rw [e];exact hne
 · rw [e];intro h;cases h;omega
theorem bxown_below {w w':World} {base:Nat} {e:TypeId} {size:Nat} {v:Value} {n:Nat} {xs:List Value} (h:w.ownsRow base e size v n xs) (hb:Below w.heap.size w w'):w'.ownsRow base e size v n xs:=
 h.kept (row:=none) ⟨hb.os,hb.tape,hb.output,hb.size,fun k hk _=>hb.block k hk⟩ (by cases v.ownBlock <;> simp)
theorem own_mono {w:World} {base base':Nat} {e:TypeId} {size:Nat} {v:Value} {n:Nat} {xs:List Value} (h:w.ownsRow base e size v n xs) (hb:base'≤base):w.ownsRow base' e size v n xs:=by
 obtain ⟨h1,h2⟩:=h
 refine ⟨h1,?_⟩
 rcases h2 with h2 | ⟨g,cap,cur,a,b,c⟩
 · exact Or.inl h2
 · exact Or.inr ⟨g,cap,cur,a,Nat.le_trans hb b,c⟩
theorem own_bytes {w:World} {base:Nat} {v:Value} {n:Nat} {l:List Nat} (h:w.ownsRow base 5 1 v n (l.map u8v)) (hn:n=l.length):BytesAt w v l:=SlAt.own h hn
theorem list_lt {l:List Nat} (h:∀ x∈l,x<256):∀ i,l.getD i 0<256:=fun i=>by
 rcases Nat.lt_or_ge i l.length with hi | hi
 · rw [List.getD,List.getElem?_eq_getElem hi];exact h _ (List.getElem_mem _)
 · rw [List.getD,List.getElem?_eq_none hi];decide
theorem entries_lt (L:List Bx.Sec):∀ x∈Bx.entries L,x<256:=by
 intro x hx
 unfold Bx.entries at hx
 rw [List.mem_flatMap] at hx
 obtain ⟨s,_,hs⟩:=hx
 unfold Bx.entry Bx.three at hs
 simp at hs;omega
theorem head_lt (L:List Bx.Sec):∀ x∈Bx.head L,x<256:=by
 intro x hx
 unfold Bx.head at hx
 rw [List.mem_append] at hx
 rcases hx with hx | hx
 · simp at hx;omega
 · exact entries_lt L x hx
def pre (L:List Bx.Sec) (i:Nat):List Nat:=[84,82,73,86,1,L.length % 256]++Bx.entries (L.take i)
theorem pre_all (L:List Bx.Sec):pre L L.length=Bx.head L:=by unfold pre Bx.head;rw [List.take_length]
theorem pre_snoc (L:List Bx.Sec) (i:Nat) (h:i<L.length):pre L i++[(L[i].1 % 256).toNat]++Bx.three L[i].2.length++Bx.three (Cr.sum L[i].2)=pre L (i+1):=by
 unfold pre;rw [Bx.entries_snoc L i h,Bx.entry];simp
def post (L:List Bx.Sec) (i:Nat):List Nat:=Bx.head L++Bx.three (Cr.sum (Bx.head L))++Bx.bodies (L.take i)
theorem post_length (L:List Bx.Sec) (i:Nat):(post L i).length≤Bx.total L:=by
 have:=Bx.sizes_take L i
 unfold post Bx.total;rw [List.length_append,List.length_append,Bx.head_length,Bx.bodies_length,Bx.three_length];omega
theorem post_zero (L:List Bx.Sec):Bx.head L++Bx.three (Cr.sum (Bx.head L))=post L 0:=by unfold post;simp [Bx.bodies]
theorem post_all (L:List Bx.Sec):post L L.length=Bx.file L:=by unfold post Bx.file;rw [List.take_length]
theorem post_snoc (L:List Bx.Sec) (i:Nat) (h:i<L.length):post L i++L[i].2=post L (i+1):=by
 unfold post;rw [Bx.bodies_snoc L i h];simp
theorem bpack_ok (a:Option Addr) (n cap:Nat) (L:List Bx.Sec) (W:World) (hn:n=L.length) (h:SecsAt W (.slice a n cap) L) (hM:Bx.May L) (hby:Bx.Bytes L) :
  Calls Tryz.prog 59 #[.slice a n cap] W fun e W'=>∃ v,e=.returned (.tuple #[v,.int .i64 0])∧Below W.heap.size W W'∧W'.ownsRow W.heap.size 5 1 v (Bx.total L) ((Bx.file L).map u8v):=by
 obtain ⟨i0,hi,hz0,hz1,hz2⟩:=info_parts Tryz.infobx5
 have hbd:∀ s∈L,(1≤s.1∧s.1≤255)∧s.2.length≤100000:=fun s hs=>by
  have h1:=Bx.rise_mem hM.2.1 s hs
  have h2:=Bx.size_le hs
  have h3:=hM.2.2
  unfold Bx.total at h3
  omega
 have MB:=hid (bmay_any a n cap L W hn h (fun s hs=>by have:=hbd s hs;omega))
 rw [(Bx.mayB_iff L).2 hM] at MB
 have HN:=hid hn
 have HS:=hid h
 have HM:=hid hM
 have HBY:=hid hby
 have HBD:=hid hbd
 have hn8:n≤8:=by have:=hM.1;omega
 have htot:=hM.2.2
 have hlen:L.length % 256=n:=by omega
 have HLEN:=hid hlen
 clear hn h hM hby hbd hlen
 go_enter Tryz.func59,Tryz.ntmps59
 go_upto_region 3 with (go_at_call 101;refine MB.out.mono ?_;rintro e w1 ⟨rfl,hB1⟩)
 have HB1:=hid hB1
 clear hB1 MB
 have hz1':=HB1.out.size
 have kc:=fun (w:World) (C:Array Value) (n c:Nat)=>Lib.run_convert_bytes_const (P:=Tryz.prog) w 32 5 C n c Tryz.underlying32 Tryz.underlying5
 go_wp2_with (at_builtin;refine wpList_append_full rfl (.tmp 13) (.tmp 17) 32 rfl 5 i0 _ 1 Tryz.underlying32 hi hz0 hz1 hz2 rfl w1.heap.size 5 ([84,82,73,86,1].map u8v) rfl rfl ?holds (w1.heap.size+1) 1 1 ([n].map u8v) rfl rfl ?news ?one (by decide) ?b1 ?b2 ?_)
 case holds=>
  intro j u hj
  rw [World.cell?_alloc_lt _ _ _ (by simp)]
  rw [cell_new]
  simpa [u8v] using hj
 case news=>
  intro j u hj
  rw [World.cell?_alloc_at _ _ _ _ (by simp)]
  simpa [u8v] using hj
 case one=>intro u hu;obtain ⟨c,_,rfl⟩:=List.mem_map.1 hu;rfl
 case b1=>unfold maxLen;omega
 case b2=>omega
 intro v4 w4 hown hb4
 have hpre:(pre L 0).map u8v=[u8v 84,u8v 82,u8v 73,u8v 86,u8v 1,u8v n]:=by
  unfold pre;rw [HLEN.out];rfl
 have HO4:=hid (show w4.ownsRow W.heap.size 5 1 v4 6 ((pre L 0).map u8v) by rw [hpre];exact own_mono hown (by omega))
 have HB4:=hid (show Below W.heap.size W w4 from by
  refine (((HB1.out.alloc hz1' _).alloc (by simp;omega) _)).trans (hb4.mono (by omega)))
 clear hown hb4 hpre kc
 go_wp2
 go_loopw [4,21] (fun s4 s21 wr=>∃ (i:Nat) (v:Value),i≤n∧s21=.int .i64 i∧s4=v∧Hid (wr.ownsRow W.heap.size 5 1 v (6+7*i) ((pre L i).map u8v))∧Hid (Below W.heap.size W wr)) (fun _ s21 _=>n-(intOf s21).toNat)
 case atStart=>exact ⟨0,v4,by omega,rfl,rfl,HO4,HB4⟩
 case round=>
  obtain ⟨i,v,hin,rfl,hv,HO,HB⟩:=hrel
  have hv2:=hv.symm
  subst hv2
  clear hv
  by_cases hlt:i<n
  · have hlt':i<L.length:=by rw [←HN.out];exact hlt
    obtain ⟨b,off,rfl,hc⟩:=HS.out.get hlt'
    obtain ⟨ab,cb,d0,d1,h1,h2,hbody⟩:=sec_open (hc i hlt')
    have d0:=below_keep HB.out d0
    have d1:=below_keep HB.out d1
    have hbd:=HBD.out L[i] (List.getElem_mem _)
    have hby:=HBY.out L[i] (List.getElem_mem _)
    have hsn:=pre_snoc L i hlt'
    generalize L[i]=s at *
    obtain ⟨id,body⟩:=s
    simp only at *
    obtain ⟨k,rfl⟩:∃ k:Nat,id=k:=⟨id.toNat,by omega⟩
    have hk:(((k:Int) % 256).toNat)=k:=by omega
    rw [hk] at hsn
    have hltI:(i:Int)<n:=by omega
    obtain ⟨m,hm⟩:∃ m,m=body.length:=⟨_,rfl⟩
    rw [←hm] at d1 h1 hbd hsn hbody
    unfold maxLen at h2
    have HSN:=hid hsn
    have HBODY:=hid hbody
    have HBYT:=hid hby
    have hsm:=Cr.sum_lt body hby
    have hszr:=HB.out.size
    have hownlt:∀ g,v.ownBlock=some g→W.heap.size≤g∧g<wr.heap.size:=fun g hg=>HO.out.lt g hg
    have HOL:=hid hownlt
    clear hc hm hk hsn hby hbody hownlt
    go_upto_region 7 with fail
    obtain ⟨w2,hw2,e0,e1,HB2⟩:=pair_box wr (.int .i64 (k:Nat)) (.slice ab m cb) 56
    rw [←hw2]
    have HZ2:=hid (show w2.heap.size=wr.heap.size+1 by rw [hw2];simp)
    have HBB:=hid (below_then HB.out HB2.out)
    have HO2:=hid (bxown_below HO.out HB2.out)
    have hne2:v.ownBlock≠some wr.heap.size:=fun e=>by have:=(HOL.out _ e).2;omega
    have HNE2:=hid hne2
    clear hw2 d0 d1 hne2
    have hkI:(k:Int) % 256=k:=by omega
    go_wp2_with (at_builtin;refine wpList_append_many rfl (.tmp 25) (.tmp 29) 32 rfl W.heap.size 5 i0 _ 1 Tryz.underlying32 hi hz0 hz1 hz2 rfl v _ _ ([k].map u8v) 1 rfl w2 ?hw rfl HO2.out w2.heap.size rfl rfl ?one ?b1 ?b2 ?base ?_)
    case hw=>simp [u8v]
    case one=>intro u hu;obtain ⟨c,_,rfl⟩:=List.mem_map.1 hu;rfl
    case b1=>unfold maxLen;omega
    case b2=>omega
    case base=>have:=HZ2.out;omega
    intro v3 w3 g1 g2 g3
    have hz2':=HZ2.out
    have G3:Grew w2 W.heap.size v (6+7*i+1) (pre L i++[k]) w3 v3:=⟨by rw [List.map_append];exact g1,g2,g3⟩
    have f0:w3.cell? ⟨wr.heap.size,0,none⟩=some (.int .i64 (k:Nat)):=by rw [G3.cell (by omega) HNE2.out];exact e0
    have f1:w3.cell? ⟨wr.heap.size,1,none⟩=some (.slice ab m cb):=by rw [G3.cell (by omega) HNE2.out];exact e1
    have HNE3:=hid (G3.off (by omega) HNE2.out)
    have HB3:=hid (G3.below HO2.out HBB.out (by omega) (Nat.le_refl _))
    have hz3:wr.heap.size<w3.heap.size:=by have:=g2.size;omega
    have HG3:=hid G3
    clear g1 g2 g3 G3 e0 e1 HBB HO2 hz2'
    have T3:=hid (app3_any v3 (6+7*i+1) m W.heap.size (pre L i++[k]) w3 HG3.out.own (by omega) (by omega) (by omega))
    go_upto_region 9 with (go_at_call 102;refine T3.out.mono ?_;rintro e w4 ⟨v5,rfl,G5⟩)
    have f2:w4.cell? ⟨wr.heap.size,1,none⟩=some (.slice ab m cb):=by rw [G5.cell hz3 HNE3.out];exact f1
    have HB4':=hid (G5.below HG3.out.own HB3.out (by omega) (Nat.le_refl _))
    have HO5:=hid G5.own
    have hz4:W.heap.size≤w4.heap.size:=HB4'.out.size
    have CS:=hid (csum_one (HBODY.out.keep HB4'.out) HBYT.out rfl)
    clear f0 f1 G5 T3 HG3
    go_wp2_with (first
     | (go_at_call 103;refine CS.out.mono ?_;rintro e w5 ⟨rfl,hw5⟩
        have HB5:=hid (show Below W.heap.size W w5 by rw [←hw5];exact HB4'.out.alloc hz4 _)
        have HO6:=hid (show w5.ownsRow W.heap.size 5 1 v5 (6+7*i+1+3) ((pre L i++[k]++Bx.three m).map u8v) by rw [←hw5];exact HO5.out.alloc _)
        have T5:=hid (app3_any v5 (6+7*i+1+3) (Cr.sum body) W.heap.size _ w5 HO6.out HB5.out.size (by omega) hsm)
        clear hw5)
     | (go_at_call 102;refine T5.out.mono ?_;rintro e w6 ⟨v6,rfl,G6⟩))
    have HB6:=hid (G6.below HO6.out HB5.out HB5.out.size (Nat.le_refl _))
    have hown6:=G6.own
    rw [HSN.out] at hown6
    have HO7:=hid hown6
    clear G6 hown6
    go_roundw
    case rel=>exact ⟨i+1,v6,by omega,by go_num,rfl,hid (by rw [show 6+7*(i+1)=6+7*i+1+3+3 by omega];exact HO7.out),HB6⟩
    case measure=>simp [intOf];omega
  · obtain rfl:i=n:=by omega
    have hpa:pre L i=Bx.head L:=by rw [HN.out];exact pre_all L
    rw [hpa] at HO
    have hdlt:=list_lt (head_lt L)
    have hsl:=Cr.sum_lt _ hdlt
    have hhl:=Bx.head_length L
    rw [←HN.out] at hhl
    have HDL:=hid hdlt
    obtain ⟨a5,cap5,hv,_,_,_,_⟩:=rowAt_own HO.out
    subst hv
    have hszr:=HB.out.size
    have BY5:=hid (own_bytes HO.out hhl.symm)
    have CS:=hid (csum_one BY5.out HDL.out rfl)
    have HHL:=hid hhl
    clear hpa hdlt hhl
    go_upto_region 12 with (first
     | (go_at_call 103;refine CS.out.mono ?_;rintro e w5 ⟨rfl,hw5⟩
        have HB5:=hid (show Below W.heap.size W w5 by rw [←hw5];exact HB.out.alloc hszr _)
        have HO6:=hid (show w5.ownsRow W.heap.size 5 1 (.slice a5 (6+7*i) cap5) (6+7*i) ((Bx.head L).map u8v) by rw [←hw5];exact HO.out.alloc _)
        have T5:=hid (app3_any (.slice a5 (6+7*i) cap5) (6+7*i) (Cr.sum (Bx.head L)) W.heap.size _ w5 HO6.out HB5.out.size (by omega) hsl)
        clear hw5)
     | (go_at_call 102;refine T5.out.mono ?_;rintro e w6 ⟨v6,rfl,G6⟩))
    have HB6:=hid (G6.below HO6.out HB5.out HB5.out.size (Nat.le_refl _))
    have hown6:=G6.own
    rw [post_zero] at hown6
    have HO7:=hid hown6
    clear G6 hown6 BY5 CS HO6 T5 HB5
    have hpl0:6+7*i+3=(post L 0).length:=by
     unfold post;rw [List.length_append,List.length_append,Bx.head_length,Bx.three_length,←HN.out];simp [Bx.bodies]
    rw [hpl0] at HO7
    clear hpl0 HO HO4 HB4 HHL hsl hszr
    go_wp2
    go_loopw [4,50] (fun s4 s50 wr=>∃ (j:Nat) (v:Value),j≤i∧s50=.int .i64 j∧s4=v∧Hid (wr.ownsRow W.heap.size 5 1 v (post L j).length ((post L j).map u8v))∧Hid (Below W.heap.size W wr)) (fun _ s50 _=>i-(intOf s50).toNat)
    case atStart=>exact ⟨0,v6,by omega,rfl,rfl,HO7,HB6⟩
    case round=>
     obtain ⟨j,v,hji,rfl,hv,HO,HB⟩:=hrel
     have hv2:=hv.symm
     subst hv2
     clear hv
     by_cases hlt2:j<i
     · have hlt':j<L.length:=by rw [←HN.out];exact hlt2
       obtain ⟨b,off,rfl,hc⟩:=HS.out.get hlt'
       obtain ⟨ab,cb,d0,d1,h1,h2,hbody⟩:=sec_open (hc j hlt')
       have d0:=below_keep HB.out d0
       have d1:=below_keep HB.out d1
       have hbd:=HBD.out L[j] (List.getElem_mem _)
       have hsn:=post_snoc L j hlt'
       have hpl:=post_length L (j+1)
       generalize L[j]=s at *
       obtain ⟨id,body⟩:=s
       simp only at *
       rw [←hsn,List.length_append] at hpl
       have hltI:(j:Int)<i:=by omega
       obtain ⟨m,hm⟩:∃ m,m=body.length:=⟨_,rfl⟩
       rw [←hm] at d1 h1 hbd hbody hpl
       unfold maxLen at h2
       have HM2:=hid hm
       have HSN:=hid hsn
       have HBODY:=hid hbody
       have hszr:=HB.out.size
       have HOL:=hid (fun g hg=>HO.out.lt g hg:∀ g,v.ownBlock=some g→W.heap.size≤g∧g<wr.heap.size)
       obtain ⟨pl,hpl0⟩:∃ pl,pl=(post L j).length:=⟨_,rfl⟩
       rw [←hpl0] at HO hpl
       have HPL:=hid hpl0
       clear hc hm hsn hbody hpl0
       go_upto_region 15 with fail
       obtain ⟨w2,hw2,e0,e1,HB2⟩:=pair_box wr (.int .i64 id) (.slice ab m cb) 56
       rw [←hw2]
       have HZ2:=hid (show w2.heap.size=wr.heap.size+1 by rw [hw2];simp)
       have HBB:=hid (below_then HB.out HB2.out)
       have HO2:=hid (bxown_below HO.out HB2.out)
       have HROW:=hid (HBODY.out.keep HBB.out)
       clear hw2 d0 d1
       go_wp2_with (at_builtin;refine wpList_append_row rfl (.tmp 54) (.tmp 56) 32 rfl W.heap.size 5 i0 _ 1 Tryz.underlying32 hi hz0 hz1 hz2 rfl v _ _ rfl HO2.out ab m cb (fun t=>u8v (body.getD t 0)) rfl ?nil ?row ?one ?b1 ?b2 ?base ?_)
       case nil=>
        obtain ⟨a',c',e,_,_,hn,_⟩:=SlAt.open HROW.out
        simp only [Value.slice.injEq] at e
        obtain ⟨rfl,_,rfl⟩:=e
        intro h;have:=hn h;exact ⟨by rw [HM2.out];exact this.1,this.2⟩
       case row=>exact (SlAt.row HROW.out).2
       case one=>intro t _;rfl
       case b1=>unfold maxLen;omega
       case b2=>omega
       case base=>have:=HZ2.out;omega
       intro v3 w3 g1 g2
       have hbm:(List.range m).map (fun t=>u8v (body.getD t 0))=body.map u8v:=by
        rw [HM2.out]
        refine List.ext_getElem (by simp) fun t q1 q2=>?_
        simp only [List.getElem_map,List.getElem_range]
        rw [List.getD,List.getElem?_eq_getElem (by simpa using q2)];rfl
       have HO3:=hid (show w3.ownsRow W.heap.size 5 1 v3 (post L (j+1)).length ((post L (j+1)).map u8v) by
        rw [←HSN.out,List.map_append,List.length_append,←HPL.out,←HM2.out,←hbm];exact g1)
       have HB3:=hid (HBB.out.grown g2 (by have:=HZ2.out;omega) (fun k hk=>(HOL.out k hk).1))
       clear g1 g2 hbm
       go_wp2
       go_roundw
       case rel=>exact ⟨j+1,v3,by omega,by go_num,rfl,HO3,HB3⟩
       case measure=>simp [intOf];omega
     · obtain rfl:j=i:=by omega
       have hpa:post L j=Bx.file L:=by rw [HN.out];exact post_all L
       rw [hpa,Bx.file_length] at HO
       clear hpa
       go_wp2
       go_ret2
       exact ⟨v,rfl,HB.out,HO.out⟩
end Go.Proofs.YtjaebndajhppgaaGreatDoor
namespace Go.Proofs.YtjaebndajhppgaaGreatDoor
open Go.ChangeShapes Go.WideShapes Go.ChangeAt Go.RowKit Go.Sort
theorem Tryz.soinfo3:(Tryz.prog.info? 3).map (fun i=>(i.zero,i.size,i.bytes))=some (some (.int .i64 0),1,8):=by kernel_rfl
theorem Tryz.soinfo5:(Tryz.prog.info? 5).map (fun i=>(i.zero,i.size,i.bytes))=some (some (.int .u8 0),1,1):=by kernel_rfl
theorem num3_step {L:List TR} {i:Nat} (hi:i<(So.ids L).length):((So.ids L).take (i+1)).flatMap So.num3=((So.ids L).take i).flatMap So.num3++So.num3 (So.ids L)[i]:=by
 rw [List.take_succ_eq_append_getElem hi,List.flatMap_append];simp
theorem num3_one (t:Rg.T):∀ u∈(So.num3 t).map i64v,u.oneCell'=true:=by
 intro u hu
 obtain ⟨x,_,rfl⟩:=List.mem_map.1 hu
 rfl
theorem all_same (l:List Rg.T):l.filter (Rg.mt (0,0,0))=l:=List.filter_eq_self.2 fun t _=>Rg.mt_zero t
theorem packed_cells (L:List TR):packCells (So.numsI L) (So.wid L) (3*L.length*So.wid L) (Pm.size (3*L.length) (So.wid L))=(So.packed L).map u8v:=by
 unfold packCells So.packed
 rw [List.map_map]
 refine List.map_congr_left fun t _=>?_
 show Value.int .u8 _=Value.int .u8 _
 unfold Pm.byte
 rw [So.numsI_len]
theorem enct_any (L:List TR) (hl:∀ t∈L,Tm.isTri t=true) (hn:L.length≤100) (p:Nat) (w:World) (h:IsStore w p L) :
  Calls Tryz.prog 61 #[.pointer (some ⟨p,0,none⟩)] w fun e w'=>∃ v,e=.returned v∧w'.ownsRow w.heap.size 5 1 v (So.body2 L).length ((So.body2 L).map u8v)∧Below w.heap.size w w':=by
 have H:=hid h
 obtain ⟨vt,ve,r,h1,h2,h3,h4⟩:=h
 obtain ⟨a,c,rfl,_,_,_⟩:=h2.open
 obtain ⟨ae,ce,rfl,_,_,_⟩:=h3.open
 rw [List.length_map] at h1
 have HP:=hid h1
 have AL:=hid (rall_any r (So.ids L) (0,0,0) w h4 (fun c hc=>by rcases Rg.c3 hc with rfl | rfl | rfl <;> decide))
 rw [all_same] at AL
 have PK:=hid (fun W a n cap (hR:RowAt W a n fun i=>.int .i64 ((So.numsI L).getD i 0)) (e:n=3*L.length)=>pack_ok a n cap (So.wid L) (So.numsI L) W (by rw [e,So.numsI_len]) (So.pack_may hn) hR)
 obtain ⟨m,hm⟩:∃ m,m=(So.terms L).length:=⟨_,rfl⟩
 have WD:=hid (fun W=>width_any (m:Int) W (by have:=So.terms_len L;omega))
 have HWD:=hid (show So.wid L=Bn.width m by rw [hm];rfl)
 rw [Int.toNat_natCast,←HWD.out] at WD
 rw [←hm] at HP
 obtain ⟨n,hn0⟩:∃ n,n=L.length:=⟨_,rfl⟩
 rw [←hn0] at HP hn PK
 have HN:=hid hn0
 clear h1 h2 h3 h4 hm hn0
 have c0:=HP.out.cell (i:=0) rfl
 have c1:=HP.out.cell (i:=1) rfl
 have c2:=HP.out.cell (i:=2) rfl
 unfold tv at AL
 go_enter Tryz.func61,Tryz.ntmps61
 go_upto_region 4 with (go_at_call 39;refine AL.out.mono ?_;rintro e w1 ⟨v1,rfl,hI,hB⟩;obtain ⟨ai,ci,rfl,_,_,_⟩:=hI.at.open;have HI:=hid hI.at;have HB:=hid hB;clear hI hB)
 obtain ⟨k,hk⟩:∃ k,k=(So.ids L).length:=⟨_,rfl⟩
 have HK:=hid hk
 rw [←hk] at HI ⊢
 have hk100:k≤100:=by rw [hk,So.ids_len,←HN.out];exact hn
 clear hk c0 c1 c2
 go_loopg [4,21] k (fun gk s4 s21 wr=>∃ i:Nat,s21=.int .i64 i∧i≤k∧k-i≤gk∧Hid (Below w1.heap.size w1 wr)∧Hid (wr.ownsRow w1.heap.size 3 1 s4 (3*i) ((((So.ids L).take i).flatMap So.num3).map i64v)))
 case atStart=>exact ⟨0,rfl,Nat.zero_le _,Nat.le_refl _,hid (Below.refl _ _),hid (World.ownsRow_nil _ _ _ _)⟩
 case round=>
  obtain ⟨i,rfl,hik,hg,HB1,HR⟩:=hrel
  by_cases hlt:i<k
  · have hltz:(i:Int)<(k:Int):=by omega
    have hiL:i<(So.ids L).length:=by rw [←HK.out];exact hlt
    obtain ⟨bl,off,rfl,hrow⟩:=(HI.out.keep HB1.out).get hiL
    have HST:=hid (num3_step hiL)
    have c0:=hrow i hiL 0 (by omega)
    have c1:=hrow i hiL 1 (by omega)
    have c2:=hrow i hiL 2 (by omega)
    obtain ⟨t,ht⟩:∃ t,t=(So.ids L)[i]:=⟨_,rfl⟩
    rw [←ht] at c0 c1 c2 HST
    obtain ⟨t1,t2,t3⟩:=t
    simp only [Rg.at',Nat.add_zero] at c0 c1 c2
    clear ht hrow hiL
    have hzr:=HB1.out.size
    obtain ⟨iS,hi0,hzS,hszS,hbyS⟩:=info_parts Tryz.soinfo3
    have HB5:=hid (HB1.out.alloc HB1.out.size (.cells ((So.num3 (t1,t2,t3)).map i64v).toArray 77))
    go_wp2_with (at_builtin;refine wpList_append_blk rfl (.tmp 25) (.tmp 26) 48 rfl w1.heap.size 3 iS _ 1 8 Tryz.underlying48 hi0 hzS hszS hbyS rfl (by decide) _ _ _ rfl (HR.out.alloc _) (some ⟨wr.heap.size,0,none⟩) 3 3 ((So.num3 (t1,t2,t3)).map i64v) rfl (fun h=>by cases h) rfl (news_blk wr ((So.num3 (t1,t2,t3)).map i64v) 77) (num3_one _) (by unfold maxLen;omega) (by omega) (by simp;omega) ?_)
    intro v8 w8 g1 g2 g3
    have HB9:=hid (HB5.out.grown g2 (by simp;omega) (fun k hk=>(HR.out.lt k hk).1))
    have HR8:=hid (show w8.ownsRow w1.heap.size 3 1 v8 (3*(i+1)) ((((So.ids L).take (i+1)).flatMap So.num3).map i64v) by rw [HST.out,List.map_append];exact g1)
    clear g1 g2 g3
    go_wp2
    go_roundg (k-(i+1))
    case measure=>omega
    case rel=>exact ⟨i+1,by go_num,by omega,by omega,HB9,HR8⟩
  · obtain rfl:i=k:=by omega
    have hin:3*i=(So.numsI L).length:=by rw [So.numsI_len,HK.out,So.ids_len]
    have hi3:3*i=3*n:=by rw [HK.out,So.ids_len,HN.out]
    have HRN:=hid (show wr.ownsRow w1.heap.size 3 1 u4 (3*i) ((So.numsI L).map i64v) by
     have h:=HR.out
     rw [HK.out,List.take_length] at h
     rw [HK.out];exact h)
    obtain ⟨an,cn,hv4,q1,q2,q3,hrow⟩:=SlAt.own (f:=i64v) (d:=(0:Int)) HRN.out hin
    rw [←hin,hi3] at hv4 hrow
    subst hv4
    have PKw:=hid (PK.out wr an (3*n) cn hrow (by rw [HN.out]))
    have HPr:=hid ((HP.out.keep HB.out).keep HB1.out)
    have c1:=HPr.out.cell (i:=1) rfl
    clear hin hi3 q1 q2 q3 hrow HR hg
    go_upto_region 9 with (first
     | (go_at_call 91;refine (WD.out _).mono ?_;rintro e w2 ⟨rfl,rfl⟩)
     | (go_at_call 105;refine PKw.out.mono ?_;rintro e w2 ⟨b,rfl,hb2,hb,hblk⟩;have HB2:=hid hb2;have HBB:=hid hb;have HBK:=hid hblk;clear hb2 hb hblk))
    have HBW:=hid (below_then HB.out (below_then HB1.out HB2.out))
    obtain ⟨z,hz⟩:∃ z,z=Pm.size (3*n) (So.wid L):=⟨_,rfl⟩
    rw [←hz] at HBK ⊢
    have HZ:=hid hz
    have hz338:z≤338:=by rw [hz,HN.out];exact So.size_le (by rw [←HN.out];exact hn)
    clear hz c1
    go_upto_region 11 with fail
    obtain ⟨iS,hi0,hzS,hszS,hbyS⟩:=info_parts Tryz.soinfo5
    have HO:=hid (own_built w2 5 #[.int .u8 ((n:Int) / 256),.int .u8 (n:Int)] 2 rfl (by unfold maxLen;omega) rfl)
    have hpk:(So.packed L).length=z:=by rw [So.packed_len,←HN.out];exact HZ.out.symm
    have HBK2:=hid (show Blk w2 b ((So.packed L).map u8v) 5 by
     have h:=HBK.out
     rw [HZ.out,HN.out,packed_cells] at h;exact h)
    have hsrc:=fun (o:Obj)=>(fun ad (had:(some ⟨b,0,none⟩:Option Addr)=some ad) j u (hu:((So.packed L).map u8v)[j]?=some u)=>(by
     cases had
     rw [add_cell rfl,Nat.zero_add]
     exact (HBK2.out.alloc o).cell hu:(w2.alloc o).cell? (ad.add j)=some u))
    go_wp2_with (at_builtin;refine wpList_append_blk rfl (.tmp 47) (.tmp 48) 32 rfl w2.heap.size 5 iS _ 1 1 Tryz.underlying32 hi0 hzS hszS hbyS rfl (by decide) _ _ _ rfl HO.out (some ⟨b,0,none⟩) z z ((So.packed L).map u8v) rfl (fun h=>by cases h) (by rw [List.length_map,hpk];omega) (hsrc _) (by intro u hu;obtain ⟨x,_,rfl⟩:=List.mem_map.1 hu;rfl) (by unfold maxLen;omega) (by omega) (by simp) ?_)
    intro v8 w8 g1 g2 g3
    have HB8:=hid (below_then HBW.out (((Below.refl w2.heap.size w2).alloc (Nat.le_refl _) _).grown g2 (by simp) (fun k hk=>(HO.out.lt k hk).1)))
    have HR8:=hid g1
    clear g1 g2 g3 hsrc
    go_wp2
    go_ret
    refine ⟨_,rfl,?_,HB8.out⟩
    have hlen:(So.body2 L).length=2+z:=by unfold So.body2;rw [List.length_append,hpk];rfl
    have hx:(So.body2 L).map u8v=#[Value.int .u8 ((n:Int) / 256),Value.int .u8 (n:Int)].toList++(So.packed L).map u8v:=by
     unfold So.body2
     rw [List.map_append,←HN.out]
     congr 1
     show [Value.int .u8 ((n / 256 % 256:Nat):Int),Value.int .u8 ((n % 256:Nat):Int)]=[Value.int .u8 ((n:Int) / 256),Value.int .u8 (n:Int)]
     rw [show ((n / 256 % 256:Nat):Int)=(n:Int) / 256 by omega,show ((n % 256:Nat):Int)=(n:Int) by omega]
    rw [hlen,hx]
    exact own_mono HR8.out (by have h1:=HB.out.size;have h2:=HB1.out.size;have h3:=HB2.out.size;omega)
end Go.Proofs.YtjaebndajhppgaaGreatDoor
namespace Go.Proofs.YtjaebndajhppgaaGreatDoor
open Go.ChangeShapes Go.WideShapes Go.ChangeAt Go.RowKit Go.Sort
theorem Tryz.soinfo9:(Tryz.prog.info? 9).map (fun i=>(i.zero,i.size,i.bytes))=some (some (.string ByteArray.empty),1,16):=by kernel_rfl
theorem so_zero_texts (n:Nat):(madeCells #[.string ByteArray.empty] n).toList=List.replicate n (str []):=by
 refine List.ext_getElem (by simp [madeCells]) fun i h1 h2=>?_
 simp [madeCells,Nat.mod_one]
 rfl
theorem so_texts_store {L:List (List UInt8)} {n:Nat} (y:List UInt8) (h:L.length<n):(L.map str++List.replicate (n-L.length) (str [])).set L.length (str y)=(L++[y]).map str++List.replicate (n-(L++[y]).length) (str []):=by
 obtain ⟨r,hr⟩:∃ r,n-L.length=r+1:=⟨n-L.length-1,by omega⟩
 rw [hr,List.replicate_succ,show n-(L++[y]).length=r by rw [List.length_append,List.length_singleton];omega]
 rw [List.set_append_right _ _ (by simp)]
 simp
theorem secs_two {W:World} {b:Nat} {v1 v2:Value} {l1 l2:List Nat} (h:Blk W b [.int .i64 1,v1,.int .i64 2,v2] 56) (h1:BytesAt W v1 l1) (h2:BytesAt W v2 l2):SecsAt W (.slice (some ⟨b,0,none⟩) 2 2) [(1,l1),(2,l2)]:=by
 refine ⟨some ⟨b,0,none⟩,2,rfl,Nat.le_refl _,by unfold maxLen;omega,(fun h=>by cases h),Or.inr ⟨b,0,rfl,fun i hi=>?_⟩⟩
 match i,hi with
 | 0,_=>exact ⟨h.cell (i:=0) rfl,v1,h.cell (i:=1) rfl,h1⟩
 | 1,_=>exact ⟨h.cell (i:=2) rfl,v2,h.cell (i:=3) rfl,h2⟩
def rowTx (L:List (List UInt8)) (m i:Nat):List Value:=(L.take i).map str++List.replicate (m-i) (str [])
theorem rowTx_len (L:List (List UInt8)) {m i:Nat} (hm:L.length=m) (hi:i≤m):(rowTx L m i).length=m:=by simp [rowTx];omega
theorem rowTx_set {L:List (List UInt8)} {m i:Nat} (hm:L.length=m) (hi:i<L.length):(rowTx L m i).set i (str L[i])=rowTx L m (i+1):=by
 have e:L.take (i+1)=L.take i++[L[i]]:=List.take_succ_eq_append_getElem hi
 unfold rowTx
 rw [e]
 have h:=so_texts_store (L:=L.take i) (n:=m) L[i] (by simp;omega)
 have hl:(L.take i).length=i:=by simp;omega
 rw [hl] at h
 rw [h,List.length_append,hl];rfl
theorem rowTx_at {W:World} {q m:Nat} {L:List (List UInt8)} (h:Blk W q (rowTx L m m) 9) (hm:L.length=m) (hx:m≤maxLen):TextsAt W (.slice (some ⟨q,0,none⟩) m m) L:=by
 subst hm
 refine ⟨some ⟨q,0,none⟩,L.length,rfl,Nat.le_refl _,hx,(fun h=>by cases h),Or.inr ⟨q,0,rfl,fun i hi=>?_⟩⟩
 rw [Nat.zero_add]
 refine h.cell ?_
 unfold rowTx
 simp [hi,List.getD]
theorem enc_any (L:List TR) (hl:∀ t∈L,Tm.isTri t=true) (hn:L.length≤100) (p:Nat) (w:World) (h:IsStore w p L) :
  Calls Tryz.prog 19 #[.pointer (some ⟨p,0,none⟩)] w fun e w'=>∃ v,e=.returned v∧w'.ownsRow w.heap.size 5 1 v (So.file L).length ((So.file L).map u8v)∧Below w.heap.size w w':=by
 have H:=hid h
 obtain ⟨vt,ve,r,h1,h2,h3,h4⟩:=h
 obtain ⟨ae,ce,rfl,_,_,_⟩:=h3.open
 have HT:=hid h3
 obtain ⟨i0,hi0,hz0,hz1,hz2⟩:=info_parts Tryz.soinfo9
 obtain ⟨m,hm0⟩:∃ m,m=(So.terms L).length:=⟨_,rfl⟩
 have hm3:m≤300:=by rw [hm0];have:=So.terms_len L;omega
 have MK:=hid (fun W:World=>run_make W 47 9 i0 _ Tryz.underlying47 hi0 hz0 .i64 .i64 m m (by omega) (by omega) (by rw [hz2];omega) (by omega))
 rw [hz1,Int.toNat_natCast] at MK
 have OKT:=hid (okT_terms hl)
 have FN:=hid (fun (v:Value) (W:World) (h:TextsAt W v (So.texts L))=>new_ok v (So.texts L) W h (So.texts_may hl hn))
 have DB:=hid (fun (p:Nat) (W:World) (h:IsDict W p (So.texts L))=>bytes_any p (So.texts L) W h (So.texts_may hl hn))
 have ET:=hid (fun (W:World) (h:IsStore W p L)=>enct_any L hl hn p W h)
 have BP:=hid (fun (a:Option Addr) (cap:Nat) (W:World) (h:SecsAt W (.slice a 2 cap) (So.secs L))=>bpack_ok a 2 cap (So.secs L) W rfl h (So.secs_may hl hn) (So.secs_bytes hl hn))
 have HTX:=hid (show (So.texts L).length=m by rw [hm0];unfold So.texts;rw [List.length_map])
 rw [←hm0] at h1 HT
 have HM:=hid hm0
 have HP:=hid h1
 clear h1 h2 h3 h4 hm0
 have c0:=HP.out.cell (i:=0) rfl
 have c1:=HP.out.cell (i:=1) rfl
 have c2:=HP.out.cell (i:=2) rfl
 have mk:=MK.out
 go_enter Tryz.func19,Tryz.ntmps19
 go_upto_region 4 with fail
 clear c0 c1 c2 mk
 obtain ⟨q,hq⟩:∃ q,q=w.heap.size:=⟨_,rfl⟩
 obtain ⟨w1,hw1⟩:∃ w1,w1=w.alloc (.cells (madeCells #[.string ByteArray.empty] m) 9):=⟨_,rfl⟩
 have HQ1:=hid (show Blk w1 q (rowTx (So.texts L) m 0) 9 by
  rw [hw1];exact Blk.new' hq.symm (by rw [so_zero_texts];simp [rowTx]))
 have HB1:=hid (show Below q w w1 by rw [hw1,hq];exact (Below.refl _ _).alloc (Nat.le_refl _) _)
 have HP1:=hid (show Blk w1 p [vt,.slice ae m ce,.pointer (some ⟨r,0,none⟩)] 110 by rw [hw1];exact HP.out.alloc _)
 have HQQ:=hid hq
 rw [←hw1,←hq]
 clear hw1 hq
 have c0:=HP1.out.cell (i:=0) rfl
 have c1:=HP1.out.cell (i:=1) rfl
 have c2:=HP1.out.cell (i:=2) rfl
 have hqp:q≠p:=fun e=>by have h1:=HP.out.lt;have h2:=HQQ.out;omega
 go_upto_region 5 with fail
 clear c0 c1 c2
 go_loopg [22] m (fun gk s22 wr=>∃ i:Nat,s22=.int .i64 i∧i≤m∧m-i≤gk∧Hid (Below q w wr)∧Hid (Blk wr q (rowTx (So.texts L) m i) 9)∧Hid (Blk wr p [vt,.slice ae m ce,.pointer (some ⟨r,0,none⟩)] 110))
 case atStart=>exact ⟨0,rfl,Nat.zero_le _,Nat.le_refl _,HB1,HQ1,HP1⟩
 case round=>
  obtain ⟨i,rfl,him,hg,HB,HQ,HP⟩:=hrel
  have HBw:=hid (show Below w.heap.size w wr by rw [←HQQ.out];exact HB.out)
  by_cases hlt:i<m
  · have hltz:(i:Int)<(m:Int):=by omega
    have hiE:i<(So.terms L).length:=by rw [←HM.out];exact hlt
    have hiT:i<(So.texts L).length:=by rw [HTX.out];exact hlt
    obtain ⟨be,off,rfl,hrow⟩:=(HT.out.keep HBw.out).get hiE
    have c0:=hrow i hiE 0 (by omega)
    have c1:=hrow i hiE 1 (by omega)
    have c2:=hrow i hiE 2 (by omega)
    have HSET:=hid (rowTx_set HTX.out hiT)
    have hIS:=So.terms_is hl (So.terms L)[i] (List.getElem_mem _)
    rw [show (So.texts L)[i]=So.sh (So.terms L)[i] by show ((So.terms L).map So.sh)[i]'(by simpa using hiE)=_;simp] at HSET
    obtain ⟨t,ht⟩:∃ t,t=(So.terms L)[i]:=⟨_,rfl⟩
    rw [←ht] at c0 c1 c2 HSET hIS
    have hsh:=vt_show ⟨t,hIS⟩
    have hvl:=vt_len ⟨t,hIS⟩
    have TS:=hid (fun W=>tshowD (t.1:Nat) t.2.1 t.2.2 W hvl.1 hvl.2.1)
    simp only at hsh
    rw [hsh] at TS
    obtain ⟨y,hy⟩:∃ y,y=So.sh t:=⟨_,rfl⟩
    rw [←hy] at TS HSET
    clear ht hrow hiE hsh hvl hIS hy
    obtain ⟨k,tt,xx⟩:=t
    unfold tmV at TS
    simp only [tm3,List.getElem?_cons_zero,List.getElem?_cons_succ,Nat.add_zero] at c0 c1 c2 TS
    have hzq:=HQ.out.lt
    have hrl:i<(rowTx (So.texts L) m i).length:=by rw [rowTx_len _ HTX.out him];exact hlt
    have HRL:=hid hrl
    clear hrl
    obtain ⟨w4,hw4⟩:∃ w4,w4=wr.alloc (.cells #[.int .i64 (k:Nat),str tt,str xx] 61):=⟨_,rfl⟩
    have HU4:=hid (show Blk w4 wr.heap.size [.int .i64 (k:Nat),str tt,str xx] 61 by rw [hw4];exact Blk.new' rfl rfl)
    have HB4:=hid (show Below q w w4 by rw [hw4];exact HB.out.alloc (by omega) _)
    have HQ4:=hid (show Blk w4 q (rowTx (So.texts L) m i) 9 by rw [hw4];exact HQ.out.alloc _)
    have HP4:=hid (show Blk w4 p [vt,.slice (some ⟨be,off,none⟩) m ce,.pointer (some ⟨r,0,none⟩)] 110 by rw [hw4];exact HP.out.alloc _)
    have HW4:=hid hw4
    clear hw4
    go_upto_region 7 with fail
    rw [←HW4.out]
    clear c0 c1 c2
    have d0:=HU4.out.cell (i:=0) rfl
    have d1:=HU4.out.cell (i:=1) rfl
    have d2:=HU4.out.cell (i:=2) rfl
    go_wp2_with (go_at_call 57;refine (TS.out _).mono ?_;rintro e w5 ⟨rfl,hb5,_⟩;have HB5:=hid hb5;clear hb5;have HQ5:=hid (HQ4.out.keep HB5.out);have HP5:=hid (HP4.out.keep HB5.out);have f0:=HQ5.out.free i;obtain ⟨z0,d3⟩:∃ z0,w5.cell? ⟨q,i,none⟩=some z0:=⟨_,HQ5.out.cell (i:=i) (List.getElem?_eq_getElem HRL.out)⟩;have hq5:=HQ5.out.lt)
    have HB6:=hid (show Below q w (w5.setCell ⟨q,i,none⟩ (str y)) from (HB4.out.trans (HB5.out.mono (by have h1:=HB4.out.size;have h2:=HQQ.out;omega))).setCell (Nat.le_refl _) _)
    have HQ6:=hid (show Blk (w5.setCell ⟨q,i,none⟩ (str y)) q (rowTx (So.texts L) m (i+1)) 9 by have h:=HQ5.out.set i (str y);rw [HSET.out] at h;exact h)
    have HP6:=hid (HP5.out.other (Ne.symm hqp) i (str y))
    clear d3 f0
    go_wp2
    go_roundg (m-(i+1))
    case measure=>omega
    case rel=>exact ⟨i+1,by go_num,by omega,by omega,HB6,HQ6,HP6⟩
  · obtain rfl:i=m:=by omega
    have HTXS:=hid (rowTx_at HQ.out HTX.out (by unfold maxLen;omega))
    have HS:=hid (H.out.keep HBw.out)
    clear hg hlt HB
    go_upto_region 10 with (go_at_call 58;refine (FN.out _ _ HTXS.out).mono ?_;rintro e w2 ⟨d,rfl,hb2,hd2,_,_⟩;have HB2:=hid hb2;have HD2:=hid hd2;clear hb2 hd2)
    go_upto_region 12 with fail
    go_wp2_with fail
    refine (DB.out _ _ HD2.out).mono ?_
    rintro e w3 ⟨v3,rfl,hb3,ho3⟩
    have hy3:BytesAt w3 v3 (So.body1 L):=SlAt.own ho3 rfl
    have HB3:=hid (below_then HB2.out hb3)
    have HS3:=hid (HS.out.keep HB3.out)
    have HY3:=hid hy3
    obtain ⟨a3,c3,rfl,_⟩:=hy3
    clear hb3 ho3
    go_wp2_with fail
    refine (ET.out _ HS3.out).mono ?_
    rintro e w4 ⟨v4,rfl,ho4,hb4⟩
    have hy4:BytesAt w4 v4 (So.body2 L):=SlAt.own ho4 rfl
    have HY4:=hid hy4
    obtain ⟨a4,c4,rfl,_⟩:=hy4
    have HB4:=hid hb4
    clear hb4 ho4
    obtain ⟨n3,hn3⟩:∃ n3,n3=(So.body1 L).length:=⟨_,rfl⟩
    obtain ⟨n4,hn4⟩:∃ n4,n4=(So.body2 L).length:=⟨_,rfl⟩
    rw [←hn3] at HY3 ⊢
    rw [←hn4] at HY4 ⊢
    have HSEC:=hid (show SecsAt (w4.alloc (.cells #[.int .i64 1,.slice a3 n3 c3,.int .i64 2,.slice a4 n4 c4] 56)) (.slice (some ⟨w4.heap.size,0,none⟩) 2 2) (So.secs L) from
     secs_two (Blk.new w4 [.int .i64 1,.slice a3 n3 c3,.int .i64 2,.slice a4 n4 c4] 56) (HY3.out.keep (HB4.out.alloc HB4.out.size _)) (HY4.out.keep ((Below.refl _ _).alloc (Nat.le_refl _) _)))
    clear hn3 hn4
    go_wp2_with fail
    refine (BP.out _ _ _ HSEC.out).mono ?_
    rintro e w5 ⟨v5,rfl,hb5,ho5⟩
    have HO5:=hid ho5
    have HB5:=hid hb5
    clear hb5 ho5
    go_wp2
    go_ret
    have hb6:Below w4.heap.size w4 w5:=((Below.refl _ _).alloc (Nat.le_refl _) _).trans (HB5.out.mono (by simp))
    have hb7:=below_then HBw.out (below_then HB3.out (below_then HB4.out hb6))
    have hfl:Bx.total (So.secs L)=(So.file L).length:=by unfold So.file;rw [Bx.file_length]
    have ho:=HO5.out
    rw [hfl] at ho
    refine ⟨_,rfl,own_mono ho ?_,hb7⟩
    have h1:=(below_then HBw.out (below_then HB3.out HB4.out)).size
    simp
    omega
end Go.Proofs.YtjaebndajhppgaaGreatDoor
namespace Go.Proofs.YtjaebndajhppgaaGreatDoor
open Go Go.ChangeShapes Go.WideShapes Go.ChangeAt Go.RowKit
def Good (w:Nat) (x:Int):Prop:=0≤x∧x.toNat<2 ^ w
theorem may_iff (l:List Int) (w:Int):Pm.May l w↔mb l.length w=true∧∀ i,i<l.length→Good w.toNat (l.getD i 0):=by
 unfold Pm.May mb Good
 simp only [decide_eq_true_eq]
 constructor
 · rintro ⟨a,b,c,d⟩;exact ⟨by omega,d⟩
 · rintro ⟨a,b⟩;exact ⟨by omega,by omega,by omega,b⟩
theorem drawn_some {P:Program} {f:FuncId} {args:Array Value} {w:World} {x:Nat} {v:Value}
  (h:∀ W,W=w.drewN x→Calls P f args W fun e w'=>e=.returned v∧∃ k,w'=W.drewN k):Calls P f args (w.drewN x) fun e w''=>e=.returned v∧∃ n,w''=w.drewN n:=
 (h _ rfl).mono fun _ _ ⟨he,k,hm⟩=>⟨he,x+k,by rw [hm,World.drewN_drewN]⟩
theorem width_low (n:Int) (h:n≤0):Bn.width n.toNat=0:=by rw [show n.toNat=0 by omega];rfl
theorem rwidth_any (n:Int) (w:World) (h:n≤9223372036854775807):Calls Tryz.prog 55 #[.int .i64 n] w fun e w'=>e=.returned (.int .i64 (Bn.width n.toNat:Nat))∧w=w':=by
 have hwl:Bn.width n.toNat≤64:=(Bn.width_le _ 64).2 (by omega)
 obtain ⟨r,hr⟩:∃ r,r=Bn.width n.toNat:=⟨_,rfl⟩
 rw [←hr] at hwl ⊢
 have HR:=hid hr
 clear hr
 go_enter Tryz.func55,Tryz.ntmps55
 go_wp2
 go_loop [0,3] (fun s0 s3=>∃ (x:Int) (k:Nat),x≤9223372036854775807∧k≤r∧s0=.int .i64 x∧s3=.int .i64 k∧Hid (r=Bn.width x.toNat+k)) (fun s0 _=>(intOf s0).toNat)
 case atStart=>exact ⟨n,0,h,by omega,rfl,rfl,HR.out⟩
 case round=>
  obtain ⟨x,k,hx,hk,rfl,rfl,HX⟩:=hrel
  by_cases h0:0<x
  · have hh:=Bn.width_half x.toNat (by omega)
    have hkr:k<r:=by have:=HX.out;omega
    have HH:=hid (show r=Bn.width (x / 2).toNat+(k+1:Nat) by
     have:=HX.out
     rw [show (x / 2).toNat=x.toNat / 2 by omega];omega)
    clear hh
    go_wp2
    go_round
    case rel=>exact ⟨x / 2,k+1,by omega,by omega,rfl,by go_num,HH⟩
    case measure=>simp [intOf];omega
  · have hkr:k=r:=by have:=HX.out;rw [width_low x (by omega)] at this;omega
    subst hkr
    go_wp2
    go_ret
    exact ⟨rfl,rfl⟩
theorem pkrmay_yes (a:Option Addr) (n cap w:Nat) (l:List Int) (W:World) (h:mb n w=true) (hgood:∀ i,i<n→Good w (l.getD i 0)) (hR:RowAt W a n fun i=>.int .i64 (l.getD i 0)) :
  Calls Tryz.prog 25 #[.slice a n cap,.int .i64 w] W fun e W'=>e=.returned (.bool true)∧W=W':=by
 have hn1:n≤1000∧w≤20:=by unfold mb at h;simp at h;omega
 obtain ⟨hn1,hw⟩:=hn1
 have HG:=hid hgood
 clear h hgood
 go_enter Tryz.func25,Tryz.ntmps25
 go_wp2
 go_loop [5] (fun s=>∃ i:Nat,i≤n∧s=.int .i64 i) (fun s=>n-(intOf s).toNat)
 case atStart=>exact ⟨0,by omega,rfl⟩
 case round=>
  obtain ⟨i,hik,rfl⟩:=hrel
  by_cases hlt:i<n
  · obtain ⟨b,off,rfl,hc⟩:=hR.get hlt
    have c0:=hc i hlt
    obtain ⟨x,hx⟩:∃ x,x=l.getD i 0:=⟨_,rfl⟩
    have hg:=HG.out i hlt
    rw [←hx] at c0 hg
    clear hc
    obtain ⟨h0,h1⟩:=hg
    have h20:2 ^ w≤1048576:=Nat.pow_le_pow_right (by omega) hw
    have WD:=hid (fun W'=>rwidth_any x W' (by omega))
    have hwd:=(Bn.width_le x.toNat w).2 h1
    obtain ⟨wd,hwd0⟩:∃ wd,wd=Bn.width x.toNat:=⟨_,rfl⟩
    rw [←hwd0] at WD hwd
    clear hx hwd0 h1 h20
    go_wp2_with (go_at_call 55;refine (WD.out _).mono ?_;rintro e w' ⟨rfl,rfl⟩)
    go_round
    case rel=>exact ⟨i+1,by omega,by go_num⟩
    case measure=>simp [intOf];omega
  · go_wp2
    go_ret
    exact ⟨rfl,rfl⟩
theorem pkrpack_ok (a:Option Addr) (n cap w:Nat) (l:List Int) (W:World) (hn:n=l.length) (hm:Pm.May l w) (hR:RowAt W a n fun i=>.int .i64 (l.getD i 0)) :
  Calls Tryz.prog 27 #[.slice a n cap,.int .i64 w] W fun e W'=>∃ b,e=.returned (.tuple #[.slice (some ⟨b,0,none⟩) (Pm.size n w) (Pm.size n w),.int .i64 0])∧Below W.heap.size W W'∧W.heap.size≤b ∧
   Blk W' b (packCells l w (n*w) (Pm.size n w)) 5:=by
 have hm0:=(may_iff l w).1 hm
 rw [←hn,Int.toNat_natCast] at hm0
 obtain ⟨_,hw20,hn1,hv⟩:=hm
 rw [←hn] at hn1 hv
 have hw:w≤20:=by omega
 have MAY:=hid (pkrmay_yes a n cap w l W hm0.1 hm0.2 hR)
 have HV:=hid hv
 have HN:=hid hn
 clear hv hn hm0
 obtain ⟨i0,hi,hz0,hz1,hz2⟩:=info_parts Tryz.inforg5
 obtain ⟨m,hmm⟩:∃ m,m=Pm.size n w:=⟨_,rfl⟩
 have hnw:n*w≤20000:=Nat.le_trans (Nat.mul_le_mul hn1 hw) (by omega)
 have hmb:m≤2501:=by
  rw [hmm];unfold Pm.size;omega
 have hmI:((n:Int)*w+7) / 8=m:=by rw [hmm];unfold Pm.size;omega
 rw [←hmm]
 have HM:=hid hmm
 clear hmm
 have mk1:∀ W:World,(Instr.makeSlice 32 (.int .i64 (m:Int)) (.int .i64 (m:Int))).run Tryz.prog W=_:=fun W=>run_make W 32 5 i0 _ Tryz.underlying32 hi hz0 .i64 .i64 m m (by omega) (by omega) (by rw [hz2];omega) (by omega)
 obtain ⟨N,hN⟩:∃ N,N=n*w:=⟨_,rfl⟩
 have hNI:(n:Int)*w=N:=by rw [hN];simp
 rw [hNI] at hmI
 rw [←hN] at hnw
 have HNN:=hid hN
 rw [←hN]
 clear hN
 go_enter Tryz.func27,Tryz.ntmps27
 go_wp2_with (go_at_call 25;refine MAY.out.mono ?_;rintro e w' ⟨rfl,rfl⟩)
 clear mk1 hmI
 go_loopw [7] (fun s7 wr=>∃ i:Nat,i≤n∧s7=.int .i64 i∧Blk wr W.heap.size (packCells l w (i*w) m) 5∧Below W.heap.size W wr∧W.heap.size<wr.heap.size) (fun s7 _=>n-(intOf s7).toNat)
 case atStart=>
  refine ⟨0,by omega,rfl,?_,(Below.refl _ _).alloc (Nat.le_refl _) _,by simp⟩
  refine Blk.new' rfl ?_
  rw [Nat.zero_mul]
  have:=packCells_zero l w m
  rwa [Nat.mul_one] at this
 case round=>
  obtain ⟨i,hin,rfl,B,hb,hz⟩:=hrel
  by_cases hlt:i<n
  · obtain ⟨b,off,rfl,hc⟩:=hR.get hlt
    have cx:=hc i hlt
    have hx:=HV.out i hlt
    obtain ⟨x,hx0⟩:=Int.eq_ofNat_of_zero_le hx.1
    rw [hx0] at cx
    have HX:=hid hx0
    have hxw:x<2 ^ w:=by have h:=hx.2;rw [hx0] at h;simpa using h
    have hx20:x<1048576:=Nat.lt_of_lt_of_le hxw (Nat.pow_le_pow_right (by omega) hw)
    have CX:=hid cx
    clear hx0 hc hx hxw cx
    obtain ⟨iw,hiw⟩:∃ iw,iw=i*w:=⟨_,rfl⟩
    have hiwI:(i:Int)*w=iw:=by rw [hiw];simp
    have hiwn:iw+w≤N:=by
     rw [HNN.out]
     have:=Nat.mul_le_mul_right w (show i+1≤n by omega)
     rw [Nat.add_mul] at this;omega
    have hmw:N≤8*m:=by rw [HM.out,HNN.out];unfold Pm.size;omega
    rw [←hiw] at B
    have HIW:=hid hiw
    clear hiw
    go_wp2
    obtain ⟨wo,rfl⟩:∃ wo:World,wo=wr:=⟨_,rfl⟩
    go_loopw [8] (fun s8 wr=>∃ d:Nat,d≤w∧s8=.int .i64 d∧Blk wr W.heap.size (packCells l w (iw+d) m) 5∧Below W.heap.size W wr∧W.heap.size<wr.heap.size) (fun s8 _=>w-(intOf s8).toNat)
    case atStart=>exact ⟨0,by omega,rfl,B,hb,hz⟩
    case round=>
     obtain ⟨d,hdw,rfl,B2,hb2,hz2⟩:=hrel
     by_cases hdl:d<w
     · have hat:(iw+d) / 8<m:=by omega
       have hat':((iw:Int)+d) / 8<m:=by omega
       have c1:=B2.cell (packCells_get (l:=l) (w:=w) (k:=iw+d) hat)
       have f1:=B2.free ((iw+d) / 8)
       have c2:=below_keep hb2 CX.out
       have hltI:(i:Int)<n:=by omega
       have hg:=Bn.grp_lt (Pm.nbit l w) 8 (iw+d) ((iw+d) / 8)
       obtain ⟨g,hg0⟩:∃ g,g=Bn.grp (Pm.nbit l w) 8 (iw+d) ((iw+d) / 8):=⟨_,rfl⟩
       rw [←hg0] at c1 hg
       have HS:=hid (show g ||| (if x.testBit d then 2 ^ ((iw+d) % 8) else 0)=Bn.grp (Pm.nbit l w) 8 (iw+d+1) ((iw+d) / 8) by
        rw [Bn.grp_step _ (by omega),hg0,HIW.out,Pm.nbit_at l w i d hdl,HX.out,Int.toNat_natCast])
       have HB:=hid (Pm.byte_or x d g ((iw+d) % 8) (by omega) (by simpa using hg) (by omega))
       clear hg0 hg
       go_wp2
       refine wp_region_drawn_tail 23 (by kernel_rfl) (by kernel_rfl) ?_
       simp only [List.take_succ_cons,List.take_zero,List.drop_succ_cons,List.drop_zero]
       repeat (go_big_quiet_step (fail))
       refine wpQuiet_nil ?_
       rintro _ ⟨nq,rfl⟩
       go_wp2
       go_roundw
       case rel=>
        refine ⟨d+1,by omega,by go_num,?_,(below_drawn hb2 nq).setCell (by simp) _,by simpa using hz2⟩
        have B3:=(B2.drewN nq).set ((iw+d) / 8) (.int .u8 ((g ||| (if x.testBit d then 2 ^ ((iw+d) % 8) else 0):Nat):Int))
        rw [HS.out,packCells_set hat] at B3
        rw [HB.out,HS.out]
        exact B3
       case measure=>simp [intOf];omega
     · obtain rfl:d=w:=by omega
       go_wp2
       go_roundw
       case rel=>
        refine ⟨i+1,by omega,by go_num,?_,hb2,hz2⟩
        rw [show (i+1)*d=iw+d by rw [HIW.out,Nat.add_mul];omega]
        exact B2
       case measure=>simp [intOf];omega
  · obtain rfl:i=n:=by omega
    rw [←HNN.out] at B
    go_wp2
    go_ret2
    exact ⟨_,rfl,hb,Nat.le_refl _,B⟩
end Go.Proofs.YtjaebndajhppgaaGreatDoor
namespace Go.Proofs.YtjaebndajhppgaaGreatDoor
open Go.ChangeShapes Go.WideShapes Go.ChangeAt Go.RowKit
theorem rshared_any (a b:List UInt8) (W:World) (ha:a.length≤9223372036854775806) (hb:b.length≤9223372036854775806) :
  Calls Tryz.prog 71 #[str a,str b] W fun e W'=>e=.returned (.int .i64 (Fr.sh a b:Nat))∧∃ q,W'=W.drewN q:=by
 obtain ⟨hla,hlb⟩:=Fr.sh_le a b
 go_enter Tryz.func71,Tryz.ntmps71
 go_wp2
 go_loopw [5] (fun s5 wr=>∃ i q:Nat,i≤Fr.sh a b∧s5=.int .i64 i∧wr=W.drewN q) (fun s5 _=>Fr.sh a b-(intOf s5).toNat)
 case atStart=>exact ⟨0,0,by omega,rfl,rfl⟩
 case round=>
  obtain ⟨i,q,hi,rfl,rfl⟩:=hrel
  by_cases hlt:i<Fr.sh a b
  · obtain ⟨c,h1,h2⟩:=Fr.sh_same hlt
    have g1:=fun p=>ba_get a i c h1 p
    have g2:=fun p=>ba_get b i c h2 p
    have hia:i<a.length:=by omega
    have hib:i<b.length:=by omega
    clear h1 h2
    go_wp2
    go_quiet (fail)
    go_wp2
    go_roundw
    case rel=>exact ⟨i+1,_,by omega,by go_num,rfl⟩
    case measure=>simp [intOf];omega
  · have hi':i=Fr.sh a b:=by omega
    have HI:=hid hi'
    by_cases hia:i<a.length
    · by_cases hib:i<b.length
      · obtain ⟨c,h1⟩:∃ c,a[i]?=some c:=⟨_,List.getElem?_eq_getElem hia⟩
        obtain ⟨d,h2⟩:∃ c,b[i]?=some c:=⟨_,List.getElem?_eq_getElem hib⟩
        have hcd:=Fr.sh_stop (c:=c) (d:=d) (by rw [←hi'];exact h1) (by rw [←hi'];exact h2)
        have hcd2:((c.toNat:Int)==(d.toNat:Int))=false:=beq_eq_false_iff_ne.2 (fun e=>hcd (UInt8.toNat_inj.1 (by omega)))
        have g1:=fun p=>ba_get a i c h1 p
        have g2:=fun p=>ba_get b i d h2 p
        clear h1 h2 hcd hi'
        go_wp2
        go_quiet (fail)
        go_wp2
        go_ret
        exact ⟨ret_int (by rw [HI.out]),_,World.drewN_drewN _ _ _⟩
      · clear hi'
        go_wp2
        go_quiet (fail)
        go_wp2
        go_ret
        exact ⟨ret_int (by rw [HI.out]),_,World.drewN_drewN _ _ _⟩
    · clear hi'
      go_wp2
      go_quiet (fail)
      go_wp2
      go_ret
      exact ⟨ret_int (by rw [HI.out]),_,World.drewN_drewN _ _ _⟩
def cvC (w:World) (l:List UInt8):Nat:=grownCap w (⟨l.toArray⟩:ByteArray).size 0 5
def cvW (w:World) (l:List UInt8):World:=w.drew.alloc (.cells (bytesRow ⟨l.toArray⟩ (cvC w l)) 5 ((bytesRow ⟨l.toArray⟩ (cvC w l)).size,(bytesRow ⟨l.toArray⟩ (cvC w l)).size+1))
theorem conv_text (w:World) (l:List UInt8):(convert 9 32 (str l)).run Tryz.prog w=.ok (.slice (some ⟨w.heap.size,0,none⟩) l.length (cvC w l)) (cvW w l):=by
 have:=run_bytes_of_string (P:=Tryz.prog) w 9 32 5 ⟨l.toArray⟩ Tryz.underlying9 Tryz.underlying32 Tryz.underlying5
 rw [this,size_of_text]
 unfold cvW cvC
 rw [size_of_text]
theorem cv_below (w:World) (l:List UInt8):Below w.heap.size w (cvW w l):=((Below.refl _ _).drew).alloc (Nat.le_refl _) _
theorem own_cv {w:World} {b n:Nat} {t:TypeId} {v:Value} {xs:List Value} (h:w.ownsRow b t 1 v n xs) (l:List UInt8):(cvW w l).ownsRow b t 1 v n xs:=World.ownsRow.alloc (show w.drew.ownsRow b t 1 v n xs from h) _
theorem cv_row (w:World) (l:List UInt8):RowAt (cvW w l) (some ⟨w.heap.size,0,none⟩) l.length fun j=>u8v ((Fr.nats l).getD j 0):=by
 refine Or.inr ⟨_,_,rfl,fun j hj=>?_⟩
 rw [Nat.zero_add]
 show (w.drew.alloc _).cell? ⟨w.drew.heap.size,j,none⟩=_
 rw [cell_new]
 unfold bytesRow Fr.nats
 rw [Array.getElem?_append_left (by simpa using hj)]
 simp [u8v,List.getD,hj]
theorem nats_range (l:List UInt8):(List.range l.length).map (fun j=>u8v ((Fr.nats l)[j]?.getD 0))=(Fr.nats l).map u8v:=by
 refine List.ext_getElem (by simp [Fr.nats]) fun i h1 h2=>?_
 have h3:i<(Fr.nats l).length:=by simpa using h2
 simp [h3]
theorem rbytes_any (v0:Value) (L:List (List UInt8)) (W:World) (h:TextsAt W v0 L) (hm:Fr.May L) :
  Calls Tryz.prog 29 #[v0] W fun e W'=>∃ v,e=.returned v∧Below W.heap.size W W'∧W'.ownsRow W.heap.size 5 1 v (Fr.byt L L.length).length ((Fr.byt L L.length).map u8v):=by
 obtain ⟨i0,hi,hz0,hz1,hz2⟩:=info_parts Tryz.infofr5
 obtain ⟨a,cap,rfl,hc1,hc2,hc3,hR⟩:=h.open
 obtain ⟨n,hn⟩:∃ n,n=L.length:=⟨_,rfl⟩
 have hn3:n≤300:=by rw [hn];exact hm.1
 have HM:=hid (fun i (hi:i<n)=>(hm.2 i (by omega)).2.1)
 have HL:=hid (fun k (hk:k≤n)=>Fr.byt_len hm k (by omega))
 have H0:=hid (show Fr.byt L 0=[n / 256 % 256,n % 256] by rw [hn];rfl)
 rw [←hn] at hR ⊢
 have HR:=hid hR
 have hw1:IntKind.u8.wrap ((n:Int) / 256)=((n / 256 % 256:Nat):Int):=by rw [IntKind.wrap_u8'];omega
 have hw2:IntKind.u8.wrap (n:Int)=((n % 256:Nat):Int):=by rw [IntKind.wrap_u8'];omega
 have SH:=hid (fun a b W ha hb=>rshared_any a b W ha hb)
 clear h hm hc1 hc3 hn
 go_enter Tryz.func29,Tryz.ntmps29
 go_wp2
 go_loopw [4,3,5] (fun s4 s3 s5 wr=>∃ i:Nat,i≤n∧s4=.int .i64 i∧Hid (wr.ownsRow W.heap.size 5 1 s3 (Fr.byt L i).length ((Fr.byt L i).map u8v))∧Hid (Below W.heap.size W wr)) (fun s4 _ _ _=>n-(intOf s4).toNat)
 case atStart=>
  refine ⟨0,by omega,rfl,?_,((Below.refl _ _).alloc (Nat.le_refl _) _)⟩
  rw [H0.out]
  exact own_built W 5 #[.int .u8 ((n:Int) / 256 % 256),.int .u8 ((n:Int) % 256)] 2 rfl (by unfold maxLen;omega) (by simp [u8v])
 case round=>
  obtain ⟨i,hin,rfl,OO,HB⟩:=hrel
  have hzr:=HB.out.size
  by_cases hlt:i<n
  · obtain ⟨b,off,rfl,hc⟩:=HR.out.get hlt
    have c1W:=hc i hlt
    have c1:=below_keep HB.out c1W
    have hxl:=HM.out i hlt
    have hbl:=HL.out i (by omega)
    have HX:=hid (show Fr.at_ L i=L.getD i [] from rfl)
    have hks:=Fr.shAt_le L i
    unfold Fr.at_ at hxl
    obtain ⟨x,hx⟩:∃ x,x=L.getD i []:=⟨_,rfl⟩
    rw [←hx] at c1W c1 hxl HX
    rw [show Fr.at_ L i=x from HX.out] at hks
    rcases Nat.eq_zero_or_pos (i % 4) with h4 | h4
    · have hm4:Int.tmod (i:Int) 4=0:=by rw [Int.tmod_eq_emod_of_nonneg (by omega)];omega
      have HK:=hid (show (0:Nat)=Fr.shAt L i by unfold Fr.shAt;rw [if_pos h4])
      obtain ⟨wc,hwc⟩:∃ wc,wc=wr:=⟨_,rfl⟩
      subst hwc
      have OC:=OO
      have HBC:=HB
      have hzc:=hzr
      clear hc hx hks h4
      obtain ⟨x2,hx2⟩:∃ y,y=x.drop 0:=⟨_,rfl⟩
      have ed:(⟨x.toArray⟩:ByteArray).extract 0 x.length=⟨x2.toArray⟩:=by rw [hx2];exact ba_drop x 0
      have hl2:x2.length+0=x.length:=by rw [hx2,List.length_drop];omega
      have hwm:IntKind.u8.wrap (x.length:Int)=(x.length:Int):=by rw [IntKind.wrap_u8'];omega
      have CV:=fun W=>conv_text W x2
      have HE:=hid (show Fr.enc L i=[0,x.length]++Fr.nats x2 by unfold Fr.enc;rw [←HK.out,show Fr.at_ L i=x from HX.out,←hx2];rfl)
      have hxi:(x.length:Int)-0=((x.length:Nat):Int):=by omega
      have HXI:=hid hxi
      clear hx2 hxi
      go_wp2_with (at_builtin;refine wpList_append_row rfl (.tmp 33) (.tmp 44) 32 rfl W.heap.size 5 i0 _ 1 Tryz.underlying32 hi hz0 hz1 hz2 rfl _ _ _ rfl (OC.out.alloc _) (some ⟨wc.heap.size,0,none⟩) 2 2 (fun j=>u8v ([0,x.length].getD j 0)) rfl ?nil ?row ?one ?b1 ?b2 ?base ?_)
      case nil=>exact fun h=>by cases h
      case row=>
       refine Or.inr ⟨_,_,rfl,fun j hj=>?_⟩
       rw [Nat.zero_add,cell_new]
       rcases (show j=0∨j=1 by omega) with rfl | rfl
       · rfl
       · exact congrArg (fun z=>some (Value.int .u8 z)) (by simp)
      case one=>intro j _;rfl
      case b1=>unfold maxLen;omega
      case b2=>omega
      case base=>simp;omega
      intro v1 w1 hown hgr
      have hb1:Below W.heap.size W w1:=(HBC.out.alloc hzc _).grown hgr (by simp;omega) (fun g hg=>(OC.out.lt g hg).1)
      have hown':w1.ownsRow W.heap.size 5 1 v1 ((Fr.byt L i).length+2) ((Fr.byt L i++[0,x.length]).map u8v):=by
       rw [List.map_append];exact hown
      have O1:=hid hown'
      have HB1:=hid hb1
      have hz1':=hb1.size
      have c3:=below_keep hb1 c1W
      clear hown hown' hgr hb1
      go_wp2_with (at_builtin;refine wpList_append_row rfl (.tmp 46) (.tmp 53) 32 rfl W.heap.size 5 i0 _ 1 Tryz.underlying32 hi hz0 hz1 hz2 rfl v1 _ _ rfl (own_cv O1.out x2) (some ⟨w1.heap.size,0,none⟩) x2.length _ (fun j=>u8v ((Fr.nats x2).getD j 0)) rfl ?nil ?row ?one ?b1 ?b2 ?base ?_)
      case nil=>exact fun h=>by cases h
      case row=>exact cv_row w1 x2
      case one=>intro j _;rfl
      case b1=>unfold maxLen;omega
      case b2=>omega
      case base=>exact Nat.le_trans hz1' (cv_below w1 x2).size
      intro v2 w2 hown2 hgr2
      have hb2:Below W.heap.size W w2:=(below_then HB1.out (cv_below w1 x2)).grown hgr2 (Nat.le_trans hz1' (cv_below w1 x2).size) (fun g hg=>(O1.out.lt g hg).1)
      rw [nats_range x2] at hown2
      have hown3:w2.ownsRow W.heap.size 5 1 v2 ((Fr.byt L i).length+2+x2.length) ((Fr.byt L i++Fr.enc L i).map u8v):=by
       rw [HE.out];simpa using hown2
      have O2:=hid hown3
      have HB2:=hid hb2
      clear hown2 hown3 hgr2 hb2
      go_wp2
      go_roundw
      case rel=>exact ⟨i+1,by omega,by go_num,own_len (O2.out) (by show _=(Fr.byt L i++Fr.enc L i).length;rw [List.length_append,HE.out,List.length_append];unfold Fr.nats;rw [List.length_map];simp only [List.length_cons,List.length_nil];omega),HB2.out⟩
      case measure=>simp [intOf];omega
    · have hm4:Int.tmod (i:Int) 4=((i % 4:Nat):Int):=by rw [Int.tmod_eq_emod_of_nonneg (by omega)];omega
      have hm5:(((i % 4:Nat):Int)==0)=false:=beq_eq_false_iff_ne.2 (by omega)
      have hi0:0<i:=by omega
      have c2:=below_keep HB.out (hc (i-1) (by omega))
      have hyl:=HM.out (i-1) (by omega)
      unfold Fr.at_ at hyl
      have HY:=hid (show Fr.at_ L (i-1)=L.getD (i-1) [] from rfl)
      obtain ⟨y,hy⟩:∃ y,y=L.getD (i-1) []:=⟨_,rfl⟩
      rw [←hy] at c2 hyl HY
      have SS:=hid (fun W=>SH.out y x W (by omega) (by omega))
      have hk0:Fr.shAt L i=Fr.sh y x:=by unfold Fr.shAt;rw [if_neg (by omega),show Fr.at_ L i=x from HX.out,show Fr.at_ L (i-1)=y from HY.out]
      rw [hk0] at hks
      obtain ⟨k,hk⟩:∃ k,k=Fr.sh y x:=⟨_,rfl⟩
      have HK:=hid (show k=Fr.shAt L i by rw [hk0,hk])
      rw [←hk] at SS hks
      clear hc hx hy hk hk0 h4
      go_wp2
      go_quiet (first | (go_at_call 71;exact drawn_some fun W hW=>SS.out W))
      obtain ⟨wc,hq⟩:∃ wc,wc=wr.drewN nq:=⟨_,rfl⟩
      rw [←hq]
      have OC:=hid (show wc.ownsRow W.heap.size 5 1 u3 (Fr.byt L i).length ((Fr.byt L i).map u8v) by rw [hq];exact OO.out)
      have HBC:=hid (show Below W.heap.size W wc by rw [hq];exact below_drawn HB.out nq)
      have hzc:=HBC.out.size
      have c1:wc.cell? ⟨b,off+i,none⟩=some (str x):=by rw [hq];exact c1
      clear hq c2
      obtain ⟨x2,hx2⟩:∃ y,y=x.drop k:=⟨_,rfl⟩
      have ed:(⟨x.toArray⟩:ByteArray).extract k x.length=⟨x2.toArray⟩:=by rw [hx2];exact ba_drop x k
      have hl2:x2.length+k=x.length:=by rw [hx2,List.length_drop];omega
      have hwk:IntKind.u8.wrap (k:Int)=(k:Int):=by rw [IntKind.wrap_u8'];omega
      have hwm:IntKind.u8.wrap ((x.length:Int)-k)=(x.length:Int)-k:=by rw [IntKind.wrap_u8'];omega
      have hwn:IntKind.i64.wrap ((x.length:Int)-k)=(x.length:Int)-k:=by rw [IntKind.wrap_i64];omega
      have CV:=fun W=>conv_text W x2
      have HE:=hid (show Fr.enc L i=[k,x.length-k]++Fr.nats x2 by unfold Fr.enc;rw [←HK.out,show Fr.at_ L i=x from HX.out,←hx2])
      have hxi:(x.length:Int)-k=((x.length-k:Nat):Int):=by omega
      have HXI:=hid hxi
      clear hx2 hxi
      go_wp2_with (at_builtin;refine wpList_append_row rfl (.tmp 33) (.tmp 44) 32 rfl W.heap.size 5 i0 _ 1 Tryz.underlying32 hi hz0 hz1 hz2 rfl _ _ _ rfl (OC.out.alloc _) (some ⟨wc.heap.size,0,none⟩) 2 2 (fun j=>u8v ([k,x.length-k].getD j 0)) rfl ?nil ?row ?one ?b1 ?b2 ?base ?_)
      case nil=>exact fun h=>by cases h
      case row=>
       refine Or.inr ⟨_,_,rfl,fun j hj=>?_⟩
       rw [Nat.zero_add,cell_new]
       rcases (show j=0∨j=1 by omega) with rfl | rfl
       · rfl
       · exact congrArg (fun z=>some (Value.int .u8 z)) HXI.out
      case one=>intro j _;rfl
      case b1=>unfold maxLen;omega
      case b2=>omega
      case base=>simp;omega
      intro v1 w1 hown hgr
      have hb1:Below W.heap.size W w1:=(HBC.out.alloc hzc _).grown hgr (by simp;omega) (fun g hg=>(OC.out.lt g hg).1)
      have hown':w1.ownsRow W.heap.size 5 1 v1 ((Fr.byt L i).length+2) ((Fr.byt L i++[k,x.length-k]).map u8v):=by
       rw [List.map_append];exact hown
      have O1:=hid hown'
      have HB1:=hid hb1
      have hz1':=hb1.size
      have c3:=below_keep hb1 c1W
      clear hown hown' hgr hb1
      go_wp2_with (at_builtin;refine wpList_append_row rfl (.tmp 46) (.tmp 53) 32 rfl W.heap.size 5 i0 _ 1 Tryz.underlying32 hi hz0 hz1 hz2 rfl v1 _ _ rfl (own_cv O1.out x2) (some ⟨w1.heap.size,0,none⟩) x2.length _ (fun j=>u8v ((Fr.nats x2).getD j 0)) rfl ?nil ?row ?one ?b1 ?b2 ?base ?_)
      case nil=>exact fun h=>by cases h
      case row=>exact cv_row w1 x2
      case one=>intro j _;rfl
      case b1=>unfold maxLen;omega
      case b2=>omega
      case base=>exact Nat.le_trans hz1' (cv_below w1 x2).size
      intro v2 w2 hown2 hgr2
      have hb2:Below W.heap.size W w2:=(below_then HB1.out (cv_below w1 x2)).grown hgr2 (Nat.le_trans hz1' (cv_below w1 x2).size) (fun g hg=>(O1.out.lt g hg).1)
      rw [nats_range x2] at hown2
      have hown3:w2.ownsRow W.heap.size 5 1 v2 ((Fr.byt L i).length+2+x2.length) ((Fr.byt L i++Fr.enc L i).map u8v):=by
       rw [HE.out];simpa using hown2
      have O2:=hid hown3
      have HB2:=hid hb2
      clear hown2 hown3 hgr2 hb2
      go_wp2
      go_roundw
      case rel=>exact ⟨i+1,by omega,by go_num,own_len (O2.out) (by show _=(Fr.byt L i++Fr.enc L i).length;rw [List.length_append,HE.out,List.length_append];unfold Fr.nats;rw [List.length_map];simp only [List.length_cons,List.length_nil];omega),HB2.out⟩
      case measure=>simp [intOf];omega
  · obtain rfl:i=n:=by omega
    go_wp2
    go_ret
    exact ⟨_,rfl,HB.out,OO.out⟩
end Go.Proofs.YtjaebndajhppgaaGreatDoor
