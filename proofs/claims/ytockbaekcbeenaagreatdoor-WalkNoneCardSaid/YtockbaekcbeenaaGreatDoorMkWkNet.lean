/-WkNet-/
import Derived.Test.YtockbaekcbeenaaGreatDoorMkHd1
import Derived.Test.YtockbaekcbeenaaGreatDoorMkWkMath
import Derived.Test.YtockbaekcbeenaaGreatDoorMkGAu2
import Derived.Test.YtockbaekcbeenaaGreatDoorMkGRg3
import Derived.Deep.RegionLaw
set_option linter.unusedVariables false
set_option linter.unusedSimpArgs false
set_option maxRecDepth 100000
set_option maxHeartbeats 4000000
namespace Go.Proofs.YtockbaekcbeenaaGreatDoor
open Go.Proofs.Tryz
open Go.ChangeShapes Go.WideShapes Go.ChangeAt Go.RowKit
open Au
theorem Tryz.infoSpot:(prog.info? 135).map (fun i=>(i.zero,i.size,i.bytes))=some (some (.agg #[.int .i64 0,.int .i64 0]),2,16):=aF
theorem Tryz.infoMove:(prog.info? 131).map (fun i=>(i.zero,i.size,i.bytes))=some (some (.agg #[.int .i64 0,.slice none 0 0]),2,32):=aF
theorem Tryz.infoIntW:(prog.info? 3).map (fun i=>(i.zero,i.size,i.bytes))=some (some (.int .i64 0),1,8):=aF
theorem Tryz.infoLLIntW:(prog.info? 127).map (fun i=>(i.zero,i.size,i.bytes))=some (some (.slice none 0 0),1,24):=aF
theorem Tryz.infoBoolW:(prog.info? 4).map (fun i=>(i.zero,i.size,i.bytes))=some (some (.bool false),1,1):=aF
theorem Tryz.infoLBoolW:(prog.info? 60).map (fun i=>(i.zero,i.size,i.bytes))=some (some (.slice none 0 0),1,24):=aF
theorem Tryz.infoLIntW:(prog.info? 35).map (fun i=>(i.zero,i.size,i.bytes))=some (some (.slice none 0 0),1,24):=aF
def mP (L:List Wk.Sp):List Value:=L.flatMap fun s=>[.int .i64 (s.1:Nat),.int .i64 (s.2:Nat)]
theorem Ej (L K:List Wk.Sp):mP (L++K)=mP L++mP K:=by simp [mP]
theorem yc:∀ L:List Wk.Sp,(mP L).length=L.length*2
 | []=>rfl
 | s::L=>by have:=yc L;show ([_,_]++mP L).length=_;simp only [List.length_append,this,List.length_cons,List.length_nil];omega
theorem ZA (L:List Wk.Sp) (s:Wk.Sp):(mP (L++[s]))[L.length*2]?=some (.int .i64 (s.1:Nat))∧(mP (L++[s]))[L.length*2+1]?=some (.int .i64 (s.2:Nat)):=by rw [Ej];constructor;{rw [List.getElem?_append_right (by rw [yc];omega),yc,Nat.sub_self];rfl};{rw [List.getElem?_append_right (by rw [yc];omega),yc,show L.length*2+1-L.length*2=1 by omega];rfl}
def eG (n:Nat) (f:Nat→Bool):List Value:=(List.range n).map fun k=>.bool (f k)
theorem qC {n:Nat} {f:Nat→Bool} {k:Nat} (h:k<n):(eG n f)[k]?=some (.bool (f k)):=by simp [eG,h]
theorem El {n:Nat} {f:Nat→Bool} {k:Nat} {v:Bool}:(eG n f).set k (.bool v)=eG n (fun b=>if b=k then v else f b):=by refine List.ext_getElem? fun i=>?_;by_cases hi:i<n;{by_cases hk:k=i;{subst hk;rw [List.getElem?_set_self (by simpa [eG] using hi),qC hi];simp};{rw [List.getElem?_set_ne hk,qC hi,qC hi];simp [show ¬ i=k from fun e=>hk e.symm]}};{rw [List.getElem?_eq_none (by simp [eG];omega),List.getElem?_eq_none (by simp [eG];omega)]}
theorem tT (n:Nat):(madeCells #[.bool false] n).toList=eG n (fun _=>false):=by refine List.ext_getElem? fun i=>?_;simp only [madeCells,Array.toList_map,Array.toList_range,List.getElem?_map,eG];by_cases hi:i<n;{rw [List.getElem?_range hi];simp [Nat.mod_one]};{rw [List.getElem?_eq_none (by simpa using hi)];rfl}
structure iC (B:Nat) (w:World) (sb P m I:Nat) (rb:Nat→Nat) (M:Nat→Nat→Bool):Prop where
 blk:aB w sb ((List.range P).map fun j=>if j<I then .slice (some ⟨rb j,0,none⟩) m m else .slice none 0 0) 60
 row:∀ j,j<I→aB w (rb j) (eG m (M j)) 4
 ge:B≤sb
 qD:∀ j,j<I→B≤rb j
 inj:∀ j k,j<I→k<I→rb j=rb k→j=k
 ne:∀ j,j<I→rb j≠sb
def pF (sb I:Nat) (rb:Nat→Nat) (k:Nat):Prop:=k=sb∨∃ j,j<I∧k=rb j
section
variable {B:Nat} {w w':World} {sb P m I:Nat} {rb:Nat→Nat} {M:Nat→Nat→Bool}
theorem iC.aW {Z:Nat→Prop} (h:iC B w sb P m I rb M) (hf:aM Z w w') (hs:¬ Z sb) (hr:∀ j,j<I→¬ Z (rb j)):iC B w' sb P m I rb M:=
 ⟨h.blk.aW hf hs,fun j hj=>(h.row j hj).aW hf (hr j hj),h.ge,h.qD,h.inj,h.ne⟩
theorem iC.keep (h:iC B w sb P m I rb M) (hb:Below w.heap.size w w'):iC B w' sb P m I rb M:=h.aW (Z:=fun _=>False) (aM.of_below hb) (fun h=>h) (fun _ _ h=>h)
theorem iC.cell (h:iC B w sb P m I rb M) {p:Nat} (hp:p<I) (hP:p<P):w.cell? ⟨sb,p,none⟩=some (.slice (some ⟨rb p,0,none⟩) m m):=h.blk.cell (by simp [hP,hp])
theorem iC.at (h:iC B w sb P m I rb M) {p v:Nat} (hp:p<I) (hv:v<m):w.cell? ⟨rb p,v,none⟩=some (.bool (M p v)):=(h.row p hp).cell (qC hv)
theorem iC.set (h:iC B w sb P m I rb M) {p v:Nat} (hp:p<I) (hv:v<m):iC B (w.setCell ⟨rb p,v,none⟩ (.bool true)) sb P m I rb (Wk.mark M p v) where
 blk:=h.blk.other (fun e=>h.ne p hp e.symm) _ _
 row:=fun j hj=>by
  by_cases e:j=p
  · subst e
    have:=(h.row j hj).set v (.bool true)
    rw [El] at this
    have e2:(fun b=>if b=v then true else M j b)=Wk.mark M j v j:=funext fun b=>by simp [Wk.mark]
    rwa [e2] at this
  · have:=(h.row j hj).other (c:=rb p) (fun x=>e (h.inj _ _ hj hp x)) v (.bool true)
    have e2:M j=Wk.mark M p v j:=funext fun b=>by simp [Wk.mark,e]
    rwa [←e2]
 ge:=h.ge
 qD:=h.qD
 inj:=h.inj
 ne:=h.ne
theorem iC.more (h:iC B w sb P m I rb (fun _ _=>false)) (hB:B≤w.heap.size) (hI:I<P) :
  iC B ((w.alloc (.cells (madeCells #[.bool false] m) 4)).setCell ⟨sb,I,none⟩ (.slice (some ⟨w.heap.size,0,none⟩) m m)) sb P m (I+1) (fun j=>if j=I then w.heap.size else rb j) (fun _ _=>false) where
 blk:=by
  have h1:=(h.blk.alloc (.cells (madeCells #[.bool false] m) 4)).set I (.slice (some ⟨w.heap.size,0,none⟩) m m)
  have e:((List.range P).map fun j=>if j<I then Value.slice (some ⟨rb j,0,none⟩) m m else .slice none 0 0).set I (.slice (some ⟨w.heap.size,0,none⟩) m m)=(List.range P).map fun j=>if j<I+1 then .slice (some ⟨if j=I then w.heap.size else rb j,0,none⟩) m m else .slice none 0 0:=by
   refine List.ext_getElem aH fun i h1 h2=>?_
   rw [List.getElem_set]
   simp only [List.getElem_map,List.getElem_range]
   by_cases e:I=i
   · subst e;simp
   · rw [if_neg e]
     by_cases hi:i<I
     · rw [if_pos hi,if_pos ay,if_neg ay]
     · rw [if_neg hi,if_neg ay]
  rwa [e] at h1
 row:=fun j hj=>by
  have hs:=h.blk.lt
  by_cases e:j=I
  · subst e
    simp only [if_pos]
    exact aB.other (aB.new' rfl (tT m)) ay _ _
  · simp only [if_neg e]
    exact aB.other ((h.row j ay).alloc _) (h.ne j ay) _ _
 ge:=h.ge
 qD:=fun j hj=>by
  by_cases e:j=I
  · simp only [if_pos e];exact hB
  · simp only [if_neg e];exact h.qD j ay
 inj:=fun j k hj hk e=>by
  by_cases e1:j=I
  · by_cases e2:k=I
    · omega
    · simp only [if_pos e1,if_neg e2] at e
      have:=(h.row k ay).lt;omega
  · by_cases e2:k=I
    · simp only [if_neg e1,if_pos e2] at e
      have:=(h.row j ay).lt;omega
    · simp only [if_neg e1,if_neg e2] at e
      exact h.inj j k ay ay e
 ne:=fun j hj e=>by
  have hs:=h.blk.lt
  by_cases e1:j=I
  · simp only [if_pos e1] at e;omega
  · simp only [if_neg e1] at e;exact h.ne j ay e
theorem iC.start {W:World} {B P m:Nat} {b:Nat} (hB:B≤b) (h:aB W b ((List.range P).map fun _=>.slice none 0 0) 60):iC B W b P m 0 (fun _=>0) (fun _ _=>false) where
 blk:=by simpa using h
 row:=fun j hj=>absurd hj (Nat.not_lt_zero _)
 ge:=hB
 qD:=fun j hj=>absurd hj (Nat.not_lt_zero _)
 inj:=fun j k hj=>absurd hj (Nat.not_lt_zero _)
 ne:=fun j hj=>absurd hj (Nat.not_lt_zero _)
end
theorem Em (n:Nat):(madeCells #[.slice none 0 0] n).toList=(List.range n).map fun _=>.slice none 0 0:=by refine List.ext_getElem? fun i=>?_;simp only [madeCells,Array.toList_map,Array.toList_range,List.getElem?_map];by_cases hi:i<n;{rw [List.getElem?_range hi];simp [Nat.mod_one]};{rw [List.getElem?_eq_none (by simpa using hi)];rfl}
def jq (w:World) (v:Value) (l:List Nat):Prop:=∃ a cap,v=.slice a l.length cap∧l.length≤cap∧cap≤maxLen∧(a=none→l.length=0∧cap=0)∧kr w a l
theorem jq.keep {w w':World} {v:Value} {l:List Nat} (h:jq w v l) (hb:Below w.heap.size w w'):jq w' v l:=by obtain ⟨a,cap,h1,h2,h3,h4,h5⟩:=h;exact ⟨a,cap,h1,h2,h3,h4,h5.keep hb⟩
theorem jq.nil (w:World):jq w (.slice none 0 0) []:=⟨none,0,rfl,Nat.le_refl _,by unfold maxLen;omega,fun _=>⟨rfl,rfl⟩,Or.inl rfl⟩
def oC (w:World) (v:Value) (al:List (List Nat)):Prop:=∃ b us,v=.slice (some ⟨b,0,none⟩) al.length al.length∧al.length≤maxLen∧aB w b us 35∧us.length=al.length∧∀ j,j<al.length→jq w (us.getD j undef) (al.getD j [])
theorem oC.keep {w w':World} {v:Value} {al:List (List Nat)} (h:oC w v al) (hb:Below w.heap.size w w'):oC w' v al:=by obtain ⟨b,us,h1,h2,h3,h4,h5⟩:=h;exact ⟨b,us,h1,h2,h3.keep hb,h4,fun j hj=>(h5 j hj).keep hb⟩
def Ap (w:World) (v:Value) (ms:List Wk.Mv):Prop:=∃ a cap,v=.slice a ms.length cap∧ms.length≤cap∧cap≤maxLen∧(a=none→ms.length=0∧cap=0)∧(ms.length=0∨∃ b,a=some ⟨b,0,none⟩∧∀ i,(h:i<ms.length)→∃ u,w.cell? ⟨b,i*2,none⟩=some (.int .i64 (ms[i].1:Nat))∧w.cell? ⟨b,i*2+1,none⟩=some u∧oC w u ms[i].2)
theorem Ap.keep {w w':World} {v:Value} {ms:List Wk.Mv} (h:Ap w v ms) (hb:Below w.heap.size w w'):Ap w' v ms:=by obtain ⟨a,cap,h1,h2,h3,h4,h5⟩:=h;refine ⟨a,cap,h1,h2,h3,h4,h5.imp_right ?_⟩;rintro ⟨b,e,h6⟩;refine ⟨b,e,fun i hi=>?_⟩;obtain ⟨u,e1,e2,e3⟩:=h6 i hi;exact ⟨u,aD hb e1,aD hb e2,e3.keep hb⟩
def qE (w:World) (p:Nat) (K:Wk.Net) (P:Nat):Prop:=∃ mb sb eb oD,aB w p [.int .i64 (K.n:Nat),.slice (some ⟨mb,0,none⟩) P P,.slice (some ⟨sb,0,none⟩) P P,.slice (some ⟨eb,0,none⟩) P P] 103 ∧
 aB w sb (eG P fun i=>K.st.getD i false) 4∧aB w eb (eG P fun i=>K.en.getD i false) 4∧aB w mb oD 129∧oD.length=P∧∀ i,i<P→Ap w (oD.getD i undef) (K.mv.getD i [])
theorem qE.keep {w w':World} {p:Nat} {K:Wk.Net} {P:Nat} (h:qE w p K P) (hb:Below w.heap.size w w'):qE w' p K P:=by obtain ⟨mb,sb,eb,oD,h1,h2,h3,h4,h5,h6⟩:=h;exact ⟨mb,sb,eb,oD,h1.keep hb,h2.keep hb,h3.keep hb,h4.keep hb,h5,fun i hi=>(h6 i hi).keep hb⟩
theorem mk_one {t e:TypeId} {z:Value} {bytes:Nat} (ht:prog.underlying t=some (.slice e)) (h:(prog.info? e).map (fun i=>(i.zero,i.size,i.bytes))=some (some z,1,bytes)) (hb:bytes≤32) (hz:z.cells=#[z]) (n:Nat) (hn:n≤1000000) (W:World) :
  (Instr.makeSlice t (.int .i64 (n:Int)) (.int .i64 (n:Int))).run prog W=.ok (.slice (some ⟨W.heap.size,0,none⟩) n n) (W.alloc (.cells (madeCells #[z] n) e)):=by obtain ⟨i,hi,hz0,hs,hby⟩:=nI h;have hnb:bytes*n≤32*1000000:=Nat.mul_le_mul hb hn;have h:=run_make W t e i _ ht hi hz0 .i64 .i64 n n ay ay (by rw [hby];omega) ay;rw [h,hz,hs];simp
theorem yg {B:Nat} {w wr w':World} {row:Option Nat} (h:Below B w wr) (hB:B≤wr.heap.size) (hg:wr.grownBy w' row) (hr:∀ k,row=some k→B≤k):Below B w w':=
 h.trans (aM.below (iT hg) hB fun k hk e=>by have:=hr k e;omega)
theorem vM (W:World) (A:List Value) (t:TypeId):∀ ad,some (⟨W.heap.size,0,none⟩:Addr)=some ad→∀ j u,A[j]?=some u→(W.alloc (.cells A.toArray t)).cell? (ad.add j)=some u:=by intro ad h j u hu;cases h;rw [lG rfl,Nat.zero_add];exact (aB.new W A t).cell hu
theorem IQ (p v:Nat):∀ u∈[Value.int .i64 (p:Nat),.int .i64 (v:Nat)],u.oneCell'=true:=by intro u hu;simp only [List.mem_cons,List.not_mem_nil,or_false] at hu;rcases hu with rfl | rfl <;> rfl
def kQ (l:List Nat):List Value:=l.map fun x=>.int .i64 (x:Nat)
theorem En (x:Nat):∀ u∈[Value.int .i64 (x:Nat)],u.oneCell'=true:=by intro u hu;simp only [List.mem_cons,List.not_mem_nil,or_false] at hu;subst hu;rfl
theorem IU {w:World} {B:Nat} {v:Value} {l:List Nat} (h:w.ownsRow B 3 1 v l.length (kQ l)):jq w v l:=by obtain ⟨a,cap,rfl,h1,h2,h3,h4⟩:=Dj h;refine ⟨a,cap,rfl,h1,h2,h3,?_⟩;rcases h4 with h4 | ⟨b,off,e,h4⟩;{exact Or.inl h4};{refine Or.inr ⟨b,off,e,fun i hi=>?_⟩;have:=h4 i hi;simpa [kQ,List.getD,hi] using this}
theorem ZB (E:Nat→Bool) (i:Nat):(List.range (i+1)).filter E=(List.range i).filter E++if E i=true then [i] else []:=by rw [List.range_succ,List.filter_append];cases h:E i <;> simp [h]
theorem filter_le (E:Nat→Bool) (i:Nat):((List.range i).filter E).length≤i:=Nat.le_trans (List.length_filter_le _ _) aH
theorem qF {w w':World} {B e size n:Nat} {v:Value} {xs:List Value} (h:w.ownsRow B e size v n xs) (hb:Below w.heap.size w w'):w'.ownsRow B e size v n xs:=by obtain ⟨h0,h1 | ⟨g,cap,cur,rfl,hB,hg,r⟩⟩:=h;{exact ⟨h0,Or.inl h1⟩};{exact ⟨h0,Or.inr ⟨g,cap,cur,rfl,hB,by rw [hb.block g (lt_of_block hg)];exact hg,r⟩⟩}
theorem oF {X:Nat→Prop} {w w':World} {B e size n:Nat} {v:Value} {xs:List Value} (h:w.ownsRow B e size v n xs) (hf:aM X w w') (hx:∀ k,v.ownBlock=some k→¬ X k):w'.ownsRow B e size v n xs:=by obtain ⟨h0,h1 | ⟨g,cap,cur,rfl,hB,hg,r⟩⟩:=h;{exact ⟨h0,Or.inl h1⟩};{exact ⟨h0,Or.inr ⟨g,cap,cur,rfl,hB,by rw [hf.block g (lt_of_block hg) (hx g rfl)];exact hg,r⟩⟩}
def Kept (B S:Nat) (w:World) (p:World→Prop):Prop:=∀ w',(∀ k,B≤k→k<S→w'.heap[k]?=w.heap[k]?)→p w'
theorem Kept.here {B S:Nat} {w:World} {p:World→Prop} (h:Kept B S w p):p w:=h w fun _ _ _=>rfl
theorem Kept.next {B S:Nat} {w w':World} {p:World→Prop} (h:Kept B S w p) (hw:∀ k,B≤k→k<S→w'.heap[k]?=w.heap[k]?):Kept B S w' p:=fun w'' h2=>h w'' fun k h3 h4=>(h2 k h3 h4).trans (hw k h3 h4)
theorem ZC {w w':World} {B e size n:Nat} {v:Value} {xs:List Value} (h:w.ownsRow B e size v n xs) (hf:∀ k,B≤k→k<w.heap.size→w'.heap[k]?=w.heap[k]?):w'.ownsRow B e size v n xs:=by obtain ⟨h0,h1 | ⟨g,cap,cur,rfl,hB,hg,r⟩⟩:=h;{exact ⟨h0,Or.inl h1⟩};{exact ⟨h0,Or.inr ⟨g,cap,cur,rfl,hB,by rw [hf g hB (lt_of_block hg)];exact hg,r⟩⟩}
end Go.Proofs.YtockbaekcbeenaaGreatDoor
namespace Go.Proofs.YtockbaekcbeenaaGreatDoor
open Go.Proofs.Tryz
open Go.ChangeShapes Go.WideShapes Go.ChangeAt Go.RowKit
open Au
def Aq (n:Nat):List Value:=(List.range n).map fun _=>.slice none 0 0
structure Pn (B:Nat) (w:World) (p mb sb eb n P:Nat):Prop where
 blk:aB w p [.int .i64 (n:Nat),.slice (some ⟨mb,0,none⟩) P P,.slice (some ⟨sb,0,none⟩) P P,.slice (some ⟨eb,0,none⟩) P P] 103
 oD:aB w mb (Aq P) 129
 IV:aB w sb (eG P fun _=>false) 4
 ZE:aB w eb (eG P fun _=>false) 4
 gp:B≤p
 gm:B≤mb
 gs:B≤sb
 ge:B≤eb
 d1:mb≠sb
 d2:mb≠eb
 d3:sb≠eb
 d4:p≠mb
 d5:p≠sb
 d6:p≠eb
theorem Tryz.infoLMoveW:(prog.info? 129).map (fun i=>(i.zero,i.size,i.bytes))=some (some (.slice none 0 0),1,24):=aF
theorem IW (n:Nat):(madeCells #[.slice none 0 0] n).toList=Aq n:=Em n
section
variable {w:World} {a b c d:Array Value} {t1 t2 t3 t4:TypeId} {A:List Value}
theorem IY (h:a.toList=A):aB (((((w.alloc (.cells a t1)).alloc (.cells b t2)).alloc (.cells c t3)).alloc (.cells d t4)).drew) w.heap.size A t1:=((((aB.new' rfl h).alloc _).alloc _).alloc _).drew
theorem IZ (h:b.toList=A):aB (((((w.alloc (.cells a t1)).alloc (.cells b t2)).alloc (.cells c t3)).alloc (.cells d t4)).drew) (w.heap.size+1) A t2:=(((aB.new' aH h).alloc _).alloc _).drew
theorem I4 (h:c.toList=A):aB (((((w.alloc (.cells a t1)).alloc (.cells b t2)).alloc (.cells c t3)).alloc (.cells d t4)).drew) (w.heap.size+1+1) A t3:=((aB.new' aH h).alloc _).drew
theorem ZF (h:d.toList=A):aB (((((w.alloc (.cells a t1)).alloc (.cells b t2)).alloc (.cells c t3)).alloc (.cells d t4)).drew) (w.heap.size+1+1+1) A t4:=(aB.new' aH h).drew
theorem ZG:Below w.heap.size w (((((w.alloc (.cells a t1)).alloc (.cells b t2)).alloc (.cells c t3)).alloc (.cells d t4)).drew):=(((((Below.refl _ _).alloc aG _).alloc aH _).alloc (by simp;omega) _).alloc (by simp;omega) _).drew
end
theorem ZH {B:Nat} {w:World} {p mb sb eb n P:Nat} (h1:aB w p [.int .i64 (n:Nat),.slice (some ⟨mb,0,none⟩) P P,.slice (some ⟨sb,0,none⟩) P P,.slice (some ⟨eb,0,none⟩) P P] 103) (h2:aB w mb (Aq P) 129) (h3:aB w sb (eG P fun _=>false) 4) (h4:aB w eb (eG P fun _=>false) 4)
  (h:B≤p∧B≤mb∧B≤sb∧B≤eb∧mb≠sb∧mb≠eb∧sb≠eb∧p≠mb∧p≠sb∧p≠eb):Pn B w p mb sb eb n P:=by obtain ⟨a,b,c,d,e,f,g,i,j,k⟩:=h;exact ⟨h1,h2,h3,h4,a,b,c,d,e,f,g,i,j,k⟩
theorem ZI (n P:Nat) (hP:P≤1000) (w:World):Calls prog 56 #[.int .i64 (n:Nat),.int .i64 (P:Nat)] w fun e w'=>∃ p mb sb eb,e=.returned (.pointer (some ⟨p,0,none⟩))∧Pn w.heap.size w' p mb sb eb n P∧Below w.heap.size w w':=by
 have mk1:∀ W:World,(Instr.makeSlice 60 (.int .i64 (P:Int)) (.int .i64 (P:Int))).run prog W=.ok (.slice (some ⟨W.heap.size,0,none⟩) P P) (W.alloc (.cells (madeCells #[.bool false] P) 4)):=fun W=>mk_one underlying60 Tryz.infoBoolW ay rfl P ay W;have mk2:∀ W:World,(Instr.makeSlice 101 (.int .i64 (P:Int)) (.int .i64 (P:Int))).run prog W=.ok (.slice (some ⟨W.heap.size,0,none⟩) P P) (W.alloc (.cells (madeCells #[.slice none 0 0] P) 129)):=fun W=>mk_one underlying101 Tryz.infoLMoveW ay rfl P ay W;go_enter func56,ntmps56;go_upto_region 1 with fail
 go_region
 all_goals
  go_wp2
  go_ret
  refine ⟨_,_,_,_,rfl,ZH (ZF rfl) ?_ ?_ ?_ ay,ZG⟩
  · with_reducible first | exact IY (IW P) | exact IZ (IW P) | exact I4 (IW P)
  · with_reducible first | exact IY (tT P) | exact IZ (tT P) | exact I4 (tT P)
  · with_reducible first | exact IY (tT P) | exact IZ (tT P) | exact I4 (tT P)
end Go.Proofs.YtockbaekcbeenaaGreatDoor
