import Derived.Test.YtnbdlaglnefcbaaGreatDmWZ
namespace Go.Proofs.YtnbdlaglnefcbaaGreat
open Go.RowKit
def fstW (W0:World):World:=((((((((((W0.alloc (.cells #[.string ⟨#[36,99,48]⟩] 9)).alloc (.cells #[.string ⟨#[36,99,48]⟩] 9)).alloc (.cells #[.string ⟨#[36,97,49]⟩] 9)).alloc (.cells #[.string ⟨#[36,99,48]⟩,.string ⟨#[36,97,49]⟩] 9)).alloc (.cells #[.string ⟨#[64,97]⟩,.int .i64 100,.string ⟨#[64,98]⟩,.int .i64 50] 54)).alloc (.cells #[.string ⟨#[36,112,50]⟩] 9)).alloc (.cells #[.string ⟨#[36,99,48]⟩,.string ⟨#[36,97,49]⟩,.string ⟨#[36,112,50]⟩] 9)).alloc (.cells #[.string ⟨#[36,106,51]⟩] 9)).alloc (.cells #[.string ⟨#[36,99,48]⟩,.string ⟨#[36,112,50]⟩,.string ⟨#[36,106,51]⟩] 9)).alloc (.cells #[.string ⟨#[36,99,48]⟩,.string ⟨#[64,97]⟩,.string ⟨#[99,114,101,97,116,101]⟩,.bool true,.string ⟨#[]⟩,.int .i64 1,.slice none 0 0,.slice none 0 0,.string ⟨#[]⟩,.slice none 0 0,.string ⟨#[36,97,49]⟩,.string ⟨#[64,97]⟩,.string ⟨#[109,101,109,98,101,114]⟩,.bool true,.string ⟨#[64,97]⟩,.int .i64 2,.slice (some ⟨W0.heap.size,0,none⟩) 1 1,.slice (some ⟨W0.heap.size+1,0,none⟩) 1 1,.string ⟨#[106,111,105,110]⟩,.slice none 0 0,.string ⟨#[36,112,50]⟩,.string ⟨#[64,97]⟩,.string ⟨#[112,111,119,101,114]⟩,.bool true,.string ⟨#[]⟩,.int .i64 3,.slice (some ⟨W0.heap.size+2,0,none⟩) 1 1,.slice (some ⟨W0.heap.size+3,0,none⟩) 2 2,.string ⟨#[]⟩,.slice (some ⟨W0.heap.size+4,0,none⟩) 2 2,.string ⟨#[36,106,51]⟩,.string ⟨#[64,97]⟩,.string ⟨#[106,111,105,110,95,114,117,108,101,115]⟩,.bool true,.string ⟨#[]⟩,.int .i64 4,.slice (some ⟨W0.heap.size+5,0,none⟩) 1 1,.slice (some ⟨W0.heap.size+6,0,none⟩) 3 3,.string ⟨#[112,117,98,108,105,99]⟩,.slice none 0 0,.string ⟨#[36,98,52]⟩,.string ⟨#[64,98]⟩,.string ⟨#[109,101,109,98,101,114]⟩,.bool true,.string ⟨#[64,98]⟩,.int .i64 5,.slice (some ⟨W0.heap.size+7,0,none⟩) 1 1,.slice (some ⟨W0.heap.size+8,0,none⟩) 3 3,.string ⟨#[106,111,105,110]⟩,.slice none 0 0] 29))
def fstT (b:Nat):Nat->Ls
 | 0=>⟨none,0,none,0,none,0,b,b,b,b⟩
 | 1=>⟨some ⟨b,0,none⟩,1,some ⟨b+1,0,none⟩,1,none,0,b,b,b,b+2⟩
 | 2=>⟨some ⟨b+2,0,none⟩,1,some ⟨b+3,0,none⟩,2,some ⟨b+4,0,none⟩,2,b+2,b+2,b+2,b+5⟩
 | 3=>⟨some ⟨b+5,0,none⟩,1,some ⟨b+6,0,none⟩,3,none,0,b+5,b+5,b+5,b+7⟩
 | _=>⟨some ⟨b+7,0,none⟩,1,some ⟨b+8,0,none⟩,3,none,0,b+7,b+7,b+7,b+9⟩
theorem fstW_size (W0:World):(fstW W0).heap.size=W0.heap.size+10:=by simp [fstW]
theorem heap_at {j:Nat}(w:World)(o:Obj)(h:j=w.heap.size):(w.alloc o).heap[j]?=some o:=by subst h;show (w.heap.push o)[w.heap.size]?=_;simp
theorem heap_lt {j:Nat}(w:World)(o:Obj)(h:j<w.heap.size):(w.alloc o).heap[j]?=w.heap[j]?:=by show (w.heap.push o)[j]?=_;rw [Array.getElem?_push,if_neg (by omega)]
theorem sls_nil {X:World}{S:Nat->ByteArray}:SlS X none 0 0 S:=⟨Nat.le_refl _,by decide,fun _ h=>absurd h (Nat.not_lt_zero _),Or.inl rfl⟩
theorem slg_nil {X:World}{M:Nat->ByteArray}{L:Nat->Int}:SlG X none 0 0 M L:=⟨Nat.le_refl _,by decide,fun _ h=>absurd h (Nat.not_lt_zero _),Or.inl rfl⟩
theorem small3 {l:List ByteArray}(h:l.all (fun s=>decide (s.size<=3))=true):∀ s ∈ l,s.size<=maxLen:=fun s hs=>Nat.le_trans (of_decide_eq_true (List.all_eq_true.1 h s hs)) (by decide)
set_option maxRecDepth 100000 in
set_option maxHeartbeats 4000000 in
theorem fst_row (W0:World):RowV QJ (fstW W0) W0.heap.size (.slice (some ⟨W0.heap.size+9,0,none⟩) 5 5) 5 fstE (fstT W0.heap.size):=by
 have hsz:=fstW_size W0
 have h0:(fstW W0).heap[W0.heap.size+0]?=some (.cells #[.string ⟨#[36,99,48]⟩] 9):=by unfold fstW;(iterate 9 rw [heap_lt _ _ (by simp <;> omega)]);exact heap_at _ _ (by simp <;> omega)
 have h1:(fstW W0).heap[W0.heap.size+1]?=some (.cells #[.string ⟨#[36,99,48]⟩] 9):=by unfold fstW;(iterate 8 rw [heap_lt _ _ (by simp <;> omega)]);exact heap_at _ _ (by simp <;> omega)
 have h2:(fstW W0).heap[W0.heap.size+2]?=some (.cells #[.string ⟨#[36,97,49]⟩] 9):=by unfold fstW;(iterate 7 rw [heap_lt _ _ (by simp <;> omega)]);exact heap_at _ _ (by simp <;> omega)
 have h3:(fstW W0).heap[W0.heap.size+3]?=some (.cells #[.string ⟨#[36,99,48]⟩,.string ⟨#[36,97,49]⟩] 9):=by unfold fstW;(iterate 6 rw [heap_lt _ _ (by simp <;> omega)]);exact heap_at _ _ (by simp <;> omega)
 have h4:(fstW W0).heap[W0.heap.size+4]?=some (.cells #[.string ⟨#[64,97]⟩,.int .i64 100,.string ⟨#[64,98]⟩,.int .i64 50] 54):=by unfold fstW;(iterate 5 rw [heap_lt _ _ (by simp <;> omega)]);exact heap_at _ _ (by simp <;> omega)
 have h5:(fstW W0).heap[W0.heap.size+5]?=some (.cells #[.string ⟨#[36,112,50]⟩] 9):=by unfold fstW;(iterate 4 rw [heap_lt _ _ (by simp <;> omega)]);exact heap_at _ _ (by simp <;> omega)
 have h6:(fstW W0).heap[W0.heap.size+6]?=some (.cells #[.string ⟨#[36,99,48]⟩,.string ⟨#[36,97,49]⟩,.string ⟨#[36,112,50]⟩] 9):=by unfold fstW;(iterate 3 rw [heap_lt _ _ (by simp <;> omega)]);exact heap_at _ _ (by simp <;> omega)
 have h7:(fstW W0).heap[W0.heap.size+7]?=some (.cells #[.string ⟨#[36,106,51]⟩] 9):=by unfold fstW;(iterate 2 rw [heap_lt _ _ (by simp <;> omega)]);exact heap_at _ _ (by simp <;> omega)
 have h8:(fstW W0).heap[W0.heap.size+8]?=some (.cells #[.string ⟨#[36,99,48]⟩,.string ⟨#[36,112,50]⟩,.string ⟨#[36,106,51]⟩] 9):=by unfold fstW;(iterate 1 rw [heap_lt _ _ (by simp <;> omega)]);exact heap_at _ _ (by simp <;> omega)
 have h9:(fstW W0).heap[W0.heap.size+9]?=some (.cells #[.string ⟨#[36,99,48]⟩,.string ⟨#[64,97]⟩,.string ⟨#[99,114,101,97,116,101]⟩,.bool true,.string ⟨#[]⟩,.int .i64 1,.slice none 0 0,.slice none 0 0,.string ⟨#[]⟩,.slice none 0 0,.string ⟨#[36,97,49]⟩,.string ⟨#[64,97]⟩,.string ⟨#[109,101,109,98,101,114]⟩,.bool true,.string ⟨#[64,97]⟩,.int .i64 2,.slice (some ⟨W0.heap.size,0,none⟩) 1 1,.slice (some ⟨W0.heap.size+1,0,none⟩) 1 1,.string ⟨#[106,111,105,110]⟩,.slice none 0 0,.string ⟨#[36,112,50]⟩,.string ⟨#[64,97]⟩,.string ⟨#[112,111,119,101,114]⟩,.bool true,.string ⟨#[]⟩,.int .i64 3,.slice (some ⟨W0.heap.size+2,0,none⟩) 1 1,.slice (some ⟨W0.heap.size+3,0,none⟩) 2 2,.string ⟨#[]⟩,.slice (some ⟨W0.heap.size+4,0,none⟩) 2 2,.string ⟨#[36,106,51]⟩,.string ⟨#[64,97]⟩,.string ⟨#[106,111,105,110,95,114,117,108,101,115]⟩,.bool true,.string ⟨#[]⟩,.int .i64 4,.slice (some ⟨W0.heap.size+5,0,none⟩) 1 1,.slice (some ⟨W0.heap.size+6,0,none⟩) 3 3,.string ⟨#[112,117,98,108,105,99]⟩,.slice none 0 0,.string ⟨#[36,98,52]⟩,.string ⟨#[64,98]⟩,.string ⟨#[109,101,109,98,101,114]⟩,.bool true,.string ⟨#[64,98]⟩,.int .i64 5,.slice (some ⟨W0.heap.size+7,0,none⟩) 1 1,.slice (some ⟨W0.heap.size+8,0,none⟩) 3 3,.string ⟨#[106,111,105,110]⟩,.slice none 0 0] 29):=by unfold fstW;exact heap_at _ _ (by simp)
 generalize fstW W0=X at *
 generalize W0.heap.size=b at *
 refine ⟨⟨by rw [encV_len],Or.inr ⟨b+9,5,_,rfl,by omega,h9,Nat.le_refl _,by decide,rfl,rfl⟩⟩,fun i hi=>?_,fun i hi=>?_,fun i j hij hj=>?_,fun g hg i hi=>?_⟩
 ·have t1:=sls_blk (l:=[tC0]) h0 rfl (small3 (by decide)) (by decide)
  have t2:=sls_blk (l:=[tC0]) h1 rfl (small3 (by decide)) (by decide)
  have t3:=sls_blk (l:=[tA1]) h2 rfl (small3 (by decide)) (by decide)
  have t4:=sls_blk (l:=[tC0,tA1]) h3 rfl (small3 (by decide)) (by decide)
  have t5:=slg_blk (l:=[(tUa,100),(tUb,50)]) h4 rfl (fun i _=>Nat.le_trans (gM_small (fun x hx=>by simp only [List.mem_cons,List.not_mem_nil,or_false] at hx;rcases hx with rfl|rfl <;> decide) i) (by decide)) (by decide)
  have t6:=sls_blk (l:=[tP2]) h5 rfl (small3 (by decide)) (by decide)
  have t7:=sls_blk (l:=[tC0,tA1,tP2]) h6 rfl (small3 (by decide)) (by decide)
  have t8:=sls_blk (l:=[tJ3]) h7 rfl (small3 (by decide)) (by decide)
  have t9:=sls_blk (l:=[tC0,tP2,tJ3]) h8 rfl (small3 (by decide)) (by decide)
  have I0:∀ {a:Option Addr} {lo hi:Nat},Iv a 0 lo hi:=Or.inl rfl
  have I1:∀ {b' n lo hi:Nat},lo<=b'->b'<hi->Iv (some ⟨b',0,none⟩) n lo hi:=fun h1 h2=>Or.inr ⟨_,_,rfl,h1,h2⟩
  match i,hi with
  | 0,_=>exact ⟨⟨by decide,by decide,by decide,by decide,by decide,sls_nil,sls_nil,slg_nil⟩,I0,I0,I0,Nat.le_refl _,by show b<=_;omega⟩
  | 1,_=>exact ⟨⟨by decide,by decide,by decide,by decide,by decide,t1,t2,slg_nil⟩,I1 (Nat.le_refl _) (by show b<b+2;omega),I1 (by show b<=b+1;omega) (by show b+1<b+2;omega),I0,by show b<=b+2;omega,by show b+2<=_;omega⟩
  | 2,_=>exact ⟨⟨by decide,by decide,by decide,by decide,by decide,t3,t4,t5⟩,I1 (by show b+2<=b+2;omega) (by show b+2<b+5;omega),I1 (by show b+2<=b+3;omega) (by show b+3<b+5;omega),I1 (by show b+2<=b+4;omega) (by show b+4<b+5;omega),by show b+2<=b+5;omega,by show b+5<=_;omega⟩
  | 3,_=>exact ⟨⟨by decide,by decide,by decide,by decide,by decide,t6,t7,slg_nil⟩,I1 (by show b+5<=b+5;omega) (by show b+5<b+7;omega),I1 (by show b+5<=b+6;omega) (by show b+6<b+7;omega),I0,by show b+5<=b+7;omega,by show b+7<=_;omega⟩
  | 4,_=>exact ⟨⟨by decide,by decide,by decide,by decide,by decide,t8,t9,slg_nil⟩,I1 (by show b+7<=b+7;omega) (by show b+7<b+9;omega),I1 (by show b+7<=b+8;omega) (by show b+8<b+9;omega),I0,by show b+7<=b+9;omega,by show b+9<=_;omega⟩
 ·match i,hi with
  | 0,_=>exact Nat.le_refl _
  | 1,_=>exact Nat.le_refl _
  | 2,_=>exact Nat.le_add_right _ _
  | 3,_=>exact Nat.le_add_right _ _
  | 4,_=>exact Nat.le_add_right _ _
 ·have f1:∀ k,k<5->(fstT b k).lo=b+(if k<=1 then 0 else if k=2 then 2 else if k=3 then 5 else 7):=fun k hk=>by
   match k,hk with
   | 0,_=>rfl
   | 1,_=>rfl
   | 2,_=>rfl
   | 3,_=>rfl
   | 4,_=>rfl
  have f2:∀ k,k<5->(fstT b k).hi=b+(if k=0 then 0 else if k=1 then 2 else if k=2 then 5 else if k=3 then 7 else 9):=fun k hk=>by
   match k,hk with
   | 0,_=>rfl
   | 1,_=>rfl
   | 2,_=>rfl
   | 3,_=>rfl
   | 4,_=>rfl
  rw [f1 j hj,f2 i (by omega)]
  repeat' split
  all_goals omega
 ·have hg':b+9=g:=by simpa [Value.ownBlock] using hg
  subst hg'
  refine Or.inr ?_
  match i,hi with
  | 0,_=>exact Nat.le_add_right _ _
  | 1,_=>exact Nat.add_le_add_left (by decide) _
  | 2,_=>exact Nat.add_le_add_left (by decide) _
  | 3,_=>exact Nat.add_le_add_left (by decide) _
  | 4,_=>exact Nat.le_refl _
theorem fst_hi (b:Nat):∀ i,i<5->(fstT b i).hi<=b+10:=fun i hi=>by
 match i,hi with
 | 0,_=>exact Nat.le_add_right _ _
 | 1,_=>exact Nat.add_le_add_left (by decide) _
 | 2,_=>exact Nat.add_le_add_left (by decide) _
 | 3,_=>exact Nat.add_le_add_left (by decide) _
 | 4,_=>exact Nat.add_le_add_left (by decide) _
end Go.Proofs.YtnbdlaglnefcbaaGreat
