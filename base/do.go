package base

import (
	"concordance/api"
	"concordance/exec"
)

// ask is what a select tells. exec.Select's errors.
func (b *Base) ask(x api.Statement) (Answer, error) {
	rows, err := exec.Select(b.store, x)
	if err != nil {
		return Answer{}, err
	}
	return Answer{Rows: rows}, nil
}

// begin lets it be inside. ErrState: it is.
func (b *Base) begin() error {
	if b.inside {
		return api.ErrState
	}
	b.inside = true
	return nil
}

// end lets it be outside, and then all that was done inside is committed, or taken back. ErrState: it is outside; what that tells.
func (b *Base) end(all func() error) error {
	if !b.inside {
		return api.ErrState
	}
	b.inside = false
	return all()
}

// change does a statement that may change something; outside it is committed at once. Its errors: then all is as it was; ErrDevice.
func (b *Base) change(x api.Statement) (Answer, error) {
	back := b.noted()
	n, err := b.apply(x)
	if err != nil {
		// Part of it may be there.
		back()
		return Answer{}, err
	}
	b.done++
	if !b.inside {
		if err := b.pager.Commit(); err != nil {
			return Answer{}, err
		}
	}
	return Answer{Count: n}, nil
}

// noted notes all as it is: what it answers takes all back that is done from now on, till something is committed.
func (b *Base) noted() func() {
	m := b.pager.Mark()
	return func() {
		// It is asked ahead of a commit, of the pager that noted it: there is no error to tell.
		b.pager.Back(m)
	}
}

// apply does a statement in the store: how many rows. Its errors: then part of it may be there.
func (b *Base) apply(x api.Statement) (int, error) {
	switch x.Kind {
	case api.Create:
		return 0, b.store.Catalog.Create(api.Table{Name: x.Table, Columns: x.Columns})
	case api.Index:
		return 0, b.store.Index(x.Table, x.Name)
	case api.Drop:
		return 0, b.store.Drop(x.Table)
	case api.Insert:
		return exec.Insert(b.store, x)
	case api.Delete:
		return exec.Delete(b.store, x)
	}
	return exec.Update(b.store, x)
}
